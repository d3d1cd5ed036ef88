/- The model's FuseWords where a product is rounded, alone or with a third word. Both sides' FuseWords answer alike (chapter 1's and part 7's text at this seat). CallWords' calls by name: fma; names that are no calls with operands. The common ground of this seat's proofs: the table of calls holds its eleven names and numbers wherever the row's list is met, and keeps them where nothing old is written; no conditions of its own. Rows of words: copies, comparisons, and an argument opened (part 8's text at this seat). CallWords of both sides: by the name, the kind and how many words there are; conditions: words of 32 bits, both tables. -/
import Derived.Test.YtoloenkcfpfgcaaDoorFuseS
import Derived.WalkSmall
import Derived.Test.YtoloenkcfpfgcaaDoorCwB
import Derived.Deep.QuietTactic
import Derived.BigQuiet
import Derived.Deep.RegionHeld3
import Derived.Test.YtoloenkcfpfgcaaDoorRows
import Derived.WalkKit
import Derived.ProofKit
import Derived.OpenShut
import Derived.WalkLawsBesides
import Derived.Lib.LaidTab
import Derived.Deep.MidRow
import Derived.Laws.BitsAll
import Derived.Deep.Grids
import Derived.Carry
import Derived.Laws.CopyOwn
import Derived.Deep.WholeRow
namespace Go.Proofs.YtoloenkcfpfgcaaDoor.fnExactFuseWords
open Go.ChangeShapes Go.WideShapes Go.ChangeAt Go.RowKit
set_option linter.unusedVariables false
section
variable (a b c mode x y z : Int) (SA SB SC : Bool) (xb : 0 ≤ x ∧ x ≤ 3) (yb : 0 ≤ y ∧ y ≤ 3) (zb : 0 ≤ z ∧ z ≤ 3) (TA : Tests a x SA) (TB : Tests b y SB) (TC : Tests c z SC)
include xb yb zb TA TB TC in
set_option maxHeartbeats 4000000 in
theorem s_prod (w : World) (m n e k : Int) (pA : Hid (∀ v : World, Calls Tryd.prog 30 #[.int .u32 a] v fun e' w' => e' = .returned (.tuple #[.int .i64 m, .int .i64 e]) ∧ w' = v)) (pB : Hid (∀ v : World, Calls Tryd.prog 30 #[.int .u32 b] v fun e' w' => e' = .returned (.tuple #[.int .i64 n, .int .i64 k]) ∧ w' = v)) (X E R : Int) (m0 : ¬ m = 0) (n0 : ¬ n = 0) (hX : m * n = X) (X0 : -281474976710656 < X) (X1 : X < 281474976710656) (hE : e + k = E) (e0 : -149 ≤ e) (e1 : e ≤ 105) (k0 : -149 ≤ k) (k1 : k ≤ 105) (r0 : 0 ≤ R) (r1 : R < 4294967296)
    (HZ : Hid (∀ v : World, Calls Tryd.prog 34 #[.agg #[.int .i64 X, .bool false, .slice none 0 0]] v fun e w' => e = .returned (.bool false) ∧ Below v.heap.size v w'))
    (HT : Hid (∀ v : World, Calls Tryd.prog 35 #[.agg #[.int .i64 X, .bool false, .slice none 0 0, .int .i64 1, .bool false, .slice none 0 0, .int .i64 E], .agg #[.int .i64 24, .int .i64 (-149), .int .i64 104], .int .i64 mode] v fun e w' => e = .returned (.int .i64 R) ∧ Below v.heap.size v w')) (hc : x = 1 ∧ y = 1 ∧ z = 0) : Calls Tryd.prog 15 #[.int .u32 a, .int .u32 b, .int .u32 c, .int .i64 mode] w fun e w' => e = .returned (.int .u32 R) ∧ Below w.heap.size w w' := by
  have nA : Hid (∀ v : World, Calls Tryd.prog 26 #[.int .u32 a] v fun e w' => e = .returned (.bool SA) ∧ w' = v) := TA.neg
  have qA : Hid (∀ v : World, Calls Tryd.prog 13 #[.int .u32 a] v fun e w' => e = .returned (.bool (decide (x = 3))) ∧ w' = v) := TA.nan
  have iA : Hid (∀ v : World, Calls Tryd.prog 28 #[.int .u32 a] v fun e w' => e = .returned (.bool (decide (x = 2))) ∧ w' = v) := TA.inf
  have zA : Hid (∀ v : World, Calls Tryd.prog 27 #[.int .u32 a] v fun e w' => e = .returned (.bool (decide (x = 0))) ∧ w' = v) := TA.nil
  have nB : Hid (∀ v : World, Calls Tryd.prog 26 #[.int .u32 b] v fun e w' => e = .returned (.bool SB) ∧ w' = v) := TB.neg
  have qB : Hid (∀ v : World, Calls Tryd.prog 13 #[.int .u32 b] v fun e w' => e = .returned (.bool (decide (y = 3))) ∧ w' = v) := TB.nan
  have iB : Hid (∀ v : World, Calls Tryd.prog 28 #[.int .u32 b] v fun e w' => e = .returned (.bool (decide (y = 2))) ∧ w' = v) := TB.inf
  have zB : Hid (∀ v : World, Calls Tryd.prog 27 #[.int .u32 b] v fun e w' => e = .returned (.bool (decide (y = 0))) ∧ w' = v) := TB.nil
  have nC : Hid (∀ v : World, Calls Tryd.prog 26 #[.int .u32 c] v fun e w' => e = .returned (.bool SC) ∧ w' = v) := TC.neg
  have qC : Hid (∀ v : World, Calls Tryd.prog 13 #[.int .u32 c] v fun e w' => e = .returned (.bool (decide (z = 3))) ∧ w' = v) := TC.nan
  have iC : Hid (∀ v : World, Calls Tryd.prog 28 #[.int .u32 c] v fun e w' => e = .returned (.bool (decide (z = 2))) ∧ w' = v) := TC.inf
  have zC : Hid (∀ v : World, Calls Tryd.prog 27 #[.int .u32 c] v fun e w' => e = .returned (.bool (decide (z = 0))) ∧ w' = v) := TC.nil
  clear TA TB TC
  have m1 : (m == 0) = false := by simpa using m0
  have n1 : (n == 0) = false := by simpa using n0
  clear m0 n0
  have hwR : IntKind.u32.wrap R = R := by rw [IntKind.wrap_u32]; exact Int.emod_eq_of_lt r0 r1
  all_goals rcases (by omega : x = 0 ∨ x = 1 ∨ x = 2 ∨ x = 3) with rfl | rfl | rfl | rfl <;> rcases (by omega : y = 0 ∨ y = 1 ∨ y = 2 ∨ y = 3) with rfl | rfl | rfl | rfl <;> try (exfalso; omega)
  all_goals rcases (by omega : z = 0 ∨ z = 1 ∨ z = 2 ∨ z = 3) with rfl | rfl | rfl | rfl <;> try (exfalso; omega)
  all_goals
    simp only [Int.reduceEq, decide_true, decide_false] at qA qB qC iA iB iC zA zB zC
    clear hc
    go_enter Tryd.func15, Tryd.ntmps15
    go_wp2_with (first | (go_at_call 26; (with_reducible show Calls Tryd.prog 26 #[Value.int IntKind.u32 a] _ _); refine ((Hid.out nA) _).mono ?_; rintro e w' ⟨rfl, hw⟩; subst w') | (go_at_call 26; (with_reducible show Calls Tryd.prog 26 #[Value.int IntKind.u32 b] _ _); refine ((Hid.out nB) _).mono ?_; rintro e w' ⟨rfl, hw⟩; subst w') | (go_at_call 26; (with_reducible show Calls Tryd.prog 26 #[Value.int IntKind.u32 c] _ _); refine ((Hid.out nC) _).mono ?_; rintro e w' ⟨rfl, hw⟩; subst w') | (go_at_call 13; (with_reducible show Calls Tryd.prog 13 #[Value.int IntKind.u32 a] _ _); refine ((Hid.out qA) _).mono ?_; rintro e w' ⟨rfl, hw⟩; subst w') | (go_at_call 13; (with_reducible show Calls Tryd.prog 13 #[Value.int IntKind.u32 b] _ _); refine ((Hid.out qB) _).mono ?_; rintro e w' ⟨rfl, hw⟩; subst w') | (go_at_call 13; (with_reducible show Calls Tryd.prog 13 #[Value.int IntKind.u32 c] _ _); refine ((Hid.out qC) _).mono ?_; rintro e w' ⟨rfl, hw⟩; subst w') | (go_at_call 28; (with_reducible show Calls Tryd.prog 28 #[Value.int IntKind.u32 a] _ _); refine ((Hid.out iA) _).mono ?_; rintro e w' ⟨rfl, hw⟩; subst w') | (go_at_call 28; (with_reducible show Calls Tryd.prog 28 #[Value.int IntKind.u32 b] _ _); refine ((Hid.out iB) _).mono ?_; rintro e w' ⟨rfl, hw⟩; subst w') | (go_at_call 28; (with_reducible show Calls Tryd.prog 28 #[Value.int IntKind.u32 c] _ _); refine ((Hid.out iC) _).mono ?_; rintro e w' ⟨rfl, hw⟩; subst w') | (go_at_call 27; (with_reducible show Calls Tryd.prog 27 #[Value.int IntKind.u32 a] _ _); refine ((Hid.out zA) _).mono ?_; rintro e w' ⟨rfl, hw⟩; subst w') | (go_at_call 27; (with_reducible show Calls Tryd.prog 27 #[Value.int IntKind.u32 b] _ _); refine ((Hid.out zB) _).mono ?_; rintro e w' ⟨rfl, hw⟩; subst w') | (go_at_call 27; (with_reducible show Calls Tryd.prog 27 #[Value.int IntKind.u32 c] _ _); refine ((Hid.out zC) _).mono ?_; rintro e w' ⟨rfl, hw⟩; subst w') | (go_at_call 29; refine (sSigned _ _ (by decide) (by decide) _).mono ?_; rintro e w' ⟨rfl, hw⟩; subst w') | (go_at_call 30; (with_reducible show Calls Tryd.prog 30 #[Value.int IntKind.u32 a] _ _); refine ((Hid.out pA) _).mono ?_; rintro e w' ⟨rfl, hw⟩; subst w') | (go_at_call 30; (with_reducible show Calls Tryd.prog 30 #[Value.int IntKind.u32 b] _ _); refine ((Hid.out pB) _).mono ?_; rintro e w' ⟨rfl, hw⟩; subst w') | (go_at_call 32; refine (zExact X E (by omega) (by omega) _).mono ?_; rintro e w1 ⟨rfl, hb1⟩) | (go_at_call 34; refine ((Hid.out HZ) _).mono ?_; rintro e w2 ⟨rfl, hb2⟩; (have P2 := (hb2.block w1.heap.size (by simp)).trans (heap_alloc_new _ _)); obtain ⟨⟨o0, o1, o2, o3, o4, o5, o6⟩, _⟩ := blk7 P2; (have z1 := hb1.size); (have z2 := hb2.size); (try simp at z2)))
    go_region_held3 (fun v => v.cell? ⟨w1.heap.size, 0, none⟩ = some (.int .i64 X) ∧ v.cell? ⟨w1.heap.size, 1, none⟩ = some (.bool false) ∧ v.cell? ⟨w1.heap.size, 2, none⟩ = some (.slice none 0 0) ∧ v.cell? ⟨w1.heap.size, 3, none⟩ = some (.int .i64 1) ∧ v.cell? ⟨w1.heap.size, 4, none⟩ = some (.bool false) ∧ v.cell? ⟨w1.heap.size, 5, none⟩ = some (.slice none 0 0) ∧ v.cell? ⟨w1.heap.size, 6, none⟩ = some (.int .i64 E)) (first | with_reducible exact ⟨o0, o1, o2, o3, o4, o5, o6⟩ | with_reducible exact ⟨t0, t1, t2, t3, t4, t5, t6⟩ | with_reducible exact ⟨u0, u1, u2, u3, u4, u5, u6⟩ | (go_keep; done)) (first | (go_at_call 36; refine (zWord _).mono ?_; rintro e w3 ⟨rfl, hb3⟩; (have hb3' : Below w2.heap.size w2 w3 := ⟨hb3.os, hb3.tape, hb3.output, hb3.size, hb3.block⟩); (have z3 := hb3'.size); (have P3 := (hb3'.block w1.heap.size (by omega)).trans P2); obtain ⟨⟨t0, t1, t2, t3, t4, t5, t6⟩, _⟩ := blk7 P3) | (go_at_call 35; refine ((Hid.out HT) _).mono ?_; rintro e w4 ⟨rfl, hb4⟩; (have P4 := (hb4.block w1.heap.size (by omega)).trans P3); obtain ⟨⟨u0, u1, u2, u3, u4, u5, u6⟩, _⟩ := blk7 P4))
    all_goals go_wp2
    all_goals go_ret
    all_goals exact ⟨by first | rfl | (show Ending.returned (.int .u32 (IntKind.u32.wrap R)) = _; rw [hwR]), by repeat (first | (with_reducible refine Below.trans ?_ (hb4.mono (by first | omega | (simp; try omega)))) | (with_reducible refine Below.trans ?_ (hb3'.mono (by first | omega | (simp; try omega)))) | (with_reducible refine Below.trans ?_ (hb2.mono (by first | omega | (simp; try omega)))) | (with_reducible refine Below.trans ?_ (hb1.mono (by first | omega | (simp; try omega)))) | (with_reducible refine Below.alloc ?_ (by first | omega | (simp; try omega)) _) | (with_reducible exact Below.refl _ _))⟩
include xb yb zb TA TB TC in
set_option maxHeartbeats 4000000 in
theorem s_sum (w : World) (m n e k : Int) (pA : Hid (∀ v : World, Calls Tryd.prog 30 #[.int .u32 a] v fun e' w' => e' = .returned (.tuple #[.int .i64 m, .int .i64 e]) ∧ w' = v)) (pB : Hid (∀ v : World, Calls Tryd.prog 30 #[.int .u32 b] v fun e' w' => e' = .returned (.tuple #[.int .i64 n, .int .i64 k]) ∧ w' = v)) (X E s q F : Int) (m0 : ¬ m = 0) (n0 : ¬ n = 0) (hX : m * n = X) (X0 : -281474976710656 < X) (X1 : X < 281474976710656) (s0 : -16777216 < s) (s1 : s < 16777216) (hE : e + k = E) (e0 : -149 ≤ e) (e1 : e ≤ 105) (k0 : -149 ≤ k) (k1 : k ≤ 105) (pC : Hid (∀ v : World, Calls Tryd.prog 30 #[.int .u32 c] v fun e' w' => e' = .returned (.tuple #[.int .i64 s, .int .i64 q]) ∧ w' = v)) (T : Int)
    (HPl : Hid (∀ v : World, Calls Tryd.prog 33 #[.agg #[.int .i64 X, .bool false, .slice none 0 0, .int .i64 1, .bool false, .slice none 0 0, .int .i64 E], .agg #[.int .i64 s, .bool false, .slice none 0 0, .int .i64 1, .bool false, .slice none 0 0, .int .i64 q]] v fun e w' => ∃ V g pp l c, e = .returned (.agg #[.int .i64 V, .bool g, .slice pp l c, .int .i64 1, .bool false, .slice none 0 0, .int .i64 F]) ∧ Num w' 200 (.agg #[.int .i64 V, .bool g, .slice pp l c]) T ∧ Below v.heap.size v w')) (hT : T ≠ 0) (R : Int) (r0 : 0 ≤ R) (r1 : R < 4294967296)
    (HT : Hid (∀ (v : World) (K : Nat) (VP : Int) (gP : Bool) (pP : Option Addr) (lP cP : Nat), Num v K (.agg #[.int .i64 VP, .bool gP, .slice pP lP cP]) T → 2 ≤ K → K ≤ 9000 → Calls Tryd.prog 35 #[.agg #[.int .i64 VP, .bool gP, .slice pP lP cP, .int .i64 1, .bool false, .slice none 0 0, .int .i64 F], .agg #[.int .i64 24, .int .i64 (-149), .int .i64 104], .int .i64 mode] v fun e w' => e = .returned (.int .i64 R) ∧ Below v.heap.size v w')) (hc : x = 1 ∧ y = 1 ∧ z = 1) : Calls Tryd.prog 15 #[.int .u32 a, .int .u32 b, .int .u32 c, .int .i64 mode] w fun e w' => e = .returned (.int .u32 R) ∧ Below w.heap.size w w' := by
  have nA : Hid (∀ v : World, Calls Tryd.prog 26 #[.int .u32 a] v fun e w' => e = .returned (.bool SA) ∧ w' = v) := TA.neg
  have qA : Hid (∀ v : World, Calls Tryd.prog 13 #[.int .u32 a] v fun e w' => e = .returned (.bool (decide (x = 3))) ∧ w' = v) := TA.nan
  have iA : Hid (∀ v : World, Calls Tryd.prog 28 #[.int .u32 a] v fun e w' => e = .returned (.bool (decide (x = 2))) ∧ w' = v) := TA.inf
  have zA : Hid (∀ v : World, Calls Tryd.prog 27 #[.int .u32 a] v fun e w' => e = .returned (.bool (decide (x = 0))) ∧ w' = v) := TA.nil
  have nB : Hid (∀ v : World, Calls Tryd.prog 26 #[.int .u32 b] v fun e w' => e = .returned (.bool SB) ∧ w' = v) := TB.neg
  have qB : Hid (∀ v : World, Calls Tryd.prog 13 #[.int .u32 b] v fun e w' => e = .returned (.bool (decide (y = 3))) ∧ w' = v) := TB.nan
  have iB : Hid (∀ v : World, Calls Tryd.prog 28 #[.int .u32 b] v fun e w' => e = .returned (.bool (decide (y = 2))) ∧ w' = v) := TB.inf
  have zB : Hid (∀ v : World, Calls Tryd.prog 27 #[.int .u32 b] v fun e w' => e = .returned (.bool (decide (y = 0))) ∧ w' = v) := TB.nil
  have nC : Hid (∀ v : World, Calls Tryd.prog 26 #[.int .u32 c] v fun e w' => e = .returned (.bool SC) ∧ w' = v) := TC.neg
  have qC : Hid (∀ v : World, Calls Tryd.prog 13 #[.int .u32 c] v fun e w' => e = .returned (.bool (decide (z = 3))) ∧ w' = v) := TC.nan
  have iC : Hid (∀ v : World, Calls Tryd.prog 28 #[.int .u32 c] v fun e w' => e = .returned (.bool (decide (z = 2))) ∧ w' = v) := TC.inf
  have zC : Hid (∀ v : World, Calls Tryd.prog 27 #[.int .u32 c] v fun e w' => e = .returned (.bool (decide (z = 0))) ∧ w' = v) := TC.nil
  clear TA TB TC
  have m1 : (m == 0) = false := by simpa using m0
  have n1 : (n == 0) = false := by simpa using n0
  clear m0 n0
  have hwR : IntKind.u32.wrap R = R := by rw [IntKind.wrap_u32]; exact Int.emod_eq_of_lt r0 r1
  all_goals rcases (by omega : x = 0 ∨ x = 1 ∨ x = 2 ∨ x = 3) with rfl | rfl | rfl | rfl <;> rcases (by omega : y = 0 ∨ y = 1 ∨ y = 2 ∨ y = 3) with rfl | rfl | rfl | rfl <;> try (exfalso; omega)
  all_goals rcases (by omega : z = 0 ∨ z = 1 ∨ z = 2 ∨ z = 3) with rfl | rfl | rfl | rfl <;> try (exfalso; omega)
  all_goals
    simp only [Int.reduceEq, decide_false] at qA qB qC iA iB iC zA zB zC
    clear hc
    go_enter Tryd.func15, Tryd.ntmps15
    go_wp2_with (first | (go_at_call 26; (with_reducible show Calls Tryd.prog 26 #[Value.int IntKind.u32 a] _ _); refine ((Hid.out nA) _).mono ?_; rintro e w' ⟨rfl, hw⟩; subst w') | (go_at_call 26; (with_reducible show Calls Tryd.prog 26 #[Value.int IntKind.u32 b] _ _); refine ((Hid.out nB) _).mono ?_; rintro e w' ⟨rfl, hw⟩; subst w') | (go_at_call 26; (with_reducible show Calls Tryd.prog 26 #[Value.int IntKind.u32 c] _ _); refine ((Hid.out nC) _).mono ?_; rintro e w' ⟨rfl, hw⟩; subst w') | (go_at_call 13; (with_reducible show Calls Tryd.prog 13 #[Value.int IntKind.u32 a] _ _); refine ((Hid.out qA) _).mono ?_; rintro e w' ⟨rfl, hw⟩; subst w') | (go_at_call 13; (with_reducible show Calls Tryd.prog 13 #[Value.int IntKind.u32 b] _ _); refine ((Hid.out qB) _).mono ?_; rintro e w' ⟨rfl, hw⟩; subst w') | (go_at_call 13; (with_reducible show Calls Tryd.prog 13 #[Value.int IntKind.u32 c] _ _); refine ((Hid.out qC) _).mono ?_; rintro e w' ⟨rfl, hw⟩; subst w') | (go_at_call 28; (with_reducible show Calls Tryd.prog 28 #[Value.int IntKind.u32 a] _ _); refine ((Hid.out iA) _).mono ?_; rintro e w' ⟨rfl, hw⟩; subst w') | (go_at_call 28; (with_reducible show Calls Tryd.prog 28 #[Value.int IntKind.u32 b] _ _); refine ((Hid.out iB) _).mono ?_; rintro e w' ⟨rfl, hw⟩; subst w') | (go_at_call 28; (with_reducible show Calls Tryd.prog 28 #[Value.int IntKind.u32 c] _ _); refine ((Hid.out iC) _).mono ?_; rintro e w' ⟨rfl, hw⟩; subst w') | (go_at_call 27; (with_reducible show Calls Tryd.prog 27 #[Value.int IntKind.u32 a] _ _); refine ((Hid.out zA) _).mono ?_; rintro e w' ⟨rfl, hw⟩; subst w') | (go_at_call 27; (with_reducible show Calls Tryd.prog 27 #[Value.int IntKind.u32 b] _ _); refine ((Hid.out zB) _).mono ?_; rintro e w' ⟨rfl, hw⟩; subst w') | (go_at_call 27; (with_reducible show Calls Tryd.prog 27 #[Value.int IntKind.u32 c] _ _); refine ((Hid.out zC) _).mono ?_; rintro e w' ⟨rfl, hw⟩; subst w') | (go_at_call 29; refine (sSigned _ _ (by decide) (by decide) _).mono ?_; rintro e w' ⟨rfl, hw⟩; subst w') | (go_at_call 30; (with_reducible show Calls Tryd.prog 30 #[Value.int IntKind.u32 a] _ _); refine ((Hid.out pA) _).mono ?_; rintro e w' ⟨rfl, hw⟩; subst w') | (go_at_call 30; (with_reducible show Calls Tryd.prog 30 #[Value.int IntKind.u32 b] _ _); refine ((Hid.out pB) _).mono ?_; rintro e w' ⟨rfl, hw⟩; subst w') | (go_at_call 30; (with_reducible show Calls Tryd.prog 30 #[Value.int IntKind.u32 c] _ _); refine ((Hid.out pC) _).mono ?_; rintro e w' ⟨rfl, hw⟩; subst w') | (go_at_call 32; refine (zExact X E (by omega) (by omega) _).mono ?_; rintro e w1 ⟨rfl, hb1⟩))
    go_region_with (first | (go_at_call 32; refine (zExact s q (by omega) (by omega) _).mono ?_; rintro e w2 ⟨rfl, hb2⟩; (have hb2' : Below (w1.alloc (.cells #[.int .i64 X, .bool false, .slice none 0 0, .int .i64 1, .bool false, .slice none 0 0, .int .i64 E] 52)).heap.size (w1.alloc (.cells #[.int .i64 X, .bool false, .slice none 0 0, .int .i64 1, .bool false, .slice none 0 0, .int .i64 E] 52)) w2 := ⟨hb2.os, hb2.tape, hb2.output, hb2.size, hb2.block⟩); (have P2 := (hb2'.block w1.heap.size (by simp)).trans (heap_alloc_new _ _)); (have z2 := hb2'.size); (try simp at z2); obtain ⟨⟨o0, o1, o2, o3, o4, o5, o6⟩, _⟩ := blk7 P2) | (go_at_call 33; refine ((Hid.out HPl) _).mono ?_; rintro e w3 ⟨V, g, pp, l, cc, rfl, N3, hb3⟩; (have hb3' : Below w2.heap.size w2 w3 := ⟨hb3.os, hb3.tape, hb3.output, hb3.size, hb3.block⟩); (have P3 := (hb3'.block w1.heap.size (by omega)).trans P2); (have z3 := hb3'.size); obtain ⟨⟨t0, t1, t2, t3, t4, t5, t6⟩, t7, t8, t9, t10, t11, t12, t13⟩ := blk7 P3))
    all_goals
      obtain ⟨W, hW⟩ : ∃ W, W = (((((((w3.setCell ⟨w1.heap.size, 0, none⟩ (.int .i64 V)).setCell ⟨w1.heap.size, 1, none⟩ (.bool g)).setCell ⟨w1.heap.size, 2, none⟩ (.slice pp l cc)).setCell ⟨w1.heap.size, 3, none⟩ (.int .i64 1)).setCell ⟨w1.heap.size, 4, none⟩ (.bool false)).setCell ⟨w1.heap.size, 5, none⟩ (.slice none 0 0)).setCell ⟨w1.heap.size, 6, none⟩ (.int .i64 F)) := ⟨_, rfl⟩
      have NW : Num W 200 (.agg #[.int .i64 V, .bool g, .slice pp l cc]) T := by rw [hW]; exact N3.set7 t1 _ _ _ _ _ _ _
      have PW : W.heap[w1.heap.size]? = some (.cells #[.int .i64 V, .bool g, .slice pp l cc, .int .i64 1, .bool false, .slice none 0 0, .int .i64 F] 52 (0, 0)) := by rw [hW]; exact set7h P3
      have zW : w1.heap.size < W.heap.size := by rw [hW]; simp; omega
      have z1 := hb1.size
      have bW : Below w.heap.size w W := by rw [hW]; repeat (first | (with_reducible refine Below.setCell ?_ (by first | omega | (simp; try omega)) _) | (with_reducible refine Below.trans ?_ (hb3'.mono (by first | omega | (simp; try omega)))) | (with_reducible refine Below.trans ?_ (hb2'.mono (by first | omega | (simp; try omega)))) | (with_reducible refine Below.alloc ?_ (by first | omega | (simp; try omega)) _) | (with_reducible exact hb1))
      rw [← hW]
      clear hW N3 P3 P2 t0 t1 t2 t3 t4 t5 t6 t7 t8 t9 t10 t11 t12 t13 hb3 hb3' hb2 hb2' o0 o1 o2 o3 o4 o5 o6 z2 z3
      have hz85 := num_zero NW
      rw [decide_eq_false hT] at hz85
      obtain ⟨⟨o0, o1, o2, o3, o4, o5, o6⟩, _⟩ := blk7 PW
      go_wp2_with (go_at_call 34; refine hz85.mono ?_; rintro e w6 ⟨rfl, hb6⟩; (have z6 := hb6.size); (have N6 := NW.next hb6); (have P6 := (hb6.block w1.heap.size zW).trans PW); obtain ⟨⟨p0, p1, p2, p3, p4, p5, p6⟩, _⟩ := blk7 P6)
      go_region_held3 (fun v => v.cell? ⟨w1.heap.size, 0, none⟩ = some (.int .i64 V) ∧ v.cell? ⟨w1.heap.size, 1, none⟩ = some (.bool g) ∧ v.cell? ⟨w1.heap.size, 2, none⟩ = some (.slice pp l cc) ∧ v.cell? ⟨w1.heap.size, 3, none⟩ = some (.int .i64 1) ∧ v.cell? ⟨w1.heap.size, 4, none⟩ = some (.bool false) ∧ v.cell? ⟨w1.heap.size, 5, none⟩ = some (.slice none 0 0) ∧ v.cell? ⟨w1.heap.size, 6, none⟩ = some (.int .i64 F)) (first | with_reducible exact ⟨p0, p1, p2, p3, p4, p5, p6⟩ | with_reducible exact ⟨t0, t1, t2, t3, t4, t5, t6⟩ | with_reducible exact ⟨u0, u1, u2, u3, u4, u5, u6⟩ | (go_keep; done)) (first | (go_at_call 36; refine (zWord _).mono ?_; rintro e w7 ⟨rfl, hb7⟩; (have hb7' : Below w6.heap.size w6 w7 := ⟨hb7.os, hb7.tape, hb7.output, hb7.size, hb7.block⟩); (have z7 := hb7'.size); (have N7 := N6.next hb7'); (have P7 := (hb7'.block w1.heap.size (by omega)).trans P6); obtain ⟨⟨t0, t1, t2, t3, t4, t5, t6⟩, _⟩ := blk7 P7) | (go_at_call 35; refine ((Hid.out HT) w7 200 V g pp l cc N7 (by decide) (by decide)).mono ?_; rintro e w8 ⟨rfl, hb8⟩; (have P8 := (hb8.block w1.heap.size (by omega)).trans P7); obtain ⟨⟨u0, u1, u2, u3, u4, u5, u6⟩, _⟩ := blk7 P8))
      all_goals go_wp2
      all_goals go_ret
      all_goals exact ⟨by first | rfl | (show Ending.returned (.int .u32 (IntKind.u32.wrap R)) = _; rw [hwR]), ((bW.trans (hb6.mono bW.size)).trans (hb7'.mono (Nat.le_trans bW.size hb6.size))).trans (hb8.mono (Nat.le_trans bW.size (Nat.le_trans hb6.size hb7'.size)))⟩
include xb yb zb TA TB TC in
set_option maxHeartbeats 4000000 in
theorem s_sum0 (w : World) (m n e k : Int) (pA : Hid (∀ v : World, Calls Tryd.prog 30 #[.int .u32 a] v fun e' w' => e' = .returned (.tuple #[.int .i64 m, .int .i64 e]) ∧ w' = v)) (pB : Hid (∀ v : World, Calls Tryd.prog 30 #[.int .u32 b] v fun e' w' => e' = .returned (.tuple #[.int .i64 n, .int .i64 k]) ∧ w' = v)) (X E s q F : Int) (m0 : ¬ m = 0) (n0 : ¬ n = 0) (hX : m * n = X) (X0 : -281474976710656 < X) (X1 : X < 281474976710656) (s0 : -16777216 < s) (s1 : s < 16777216) (hE : e + k = E) (e0 : -149 ≤ e) (e1 : e ≤ 105) (k0 : -149 ≤ k) (k1 : k ≤ 105) (pC : Hid (∀ v : World, Calls Tryd.prog 30 #[.int .u32 c] v fun e' w' => e' = .returned (.tuple #[.int .i64 s, .int .i64 q]) ∧ w' = v)) (T : Int)
    (HPl : Hid (∀ v : World, Calls Tryd.prog 33 #[.agg #[.int .i64 X, .bool false, .slice none 0 0, .int .i64 1, .bool false, .slice none 0 0, .int .i64 E], .agg #[.int .i64 s, .bool false, .slice none 0 0, .int .i64 1, .bool false, .slice none 0 0, .int .i64 q]] v fun e w' => ∃ V g pp l c, e = .returned (.agg #[.int .i64 V, .bool g, .slice pp l c, .int .i64 1, .bool false, .slice none 0 0, .int .i64 F]) ∧ Num w' 200 (.agg #[.int .i64 V, .bool g, .slice pp l c]) T ∧ Below v.heap.size v w')) (hT : T = 0) (hc : x = 1 ∧ y = 1 ∧ z = 1) : Calls Tryd.prog 15 #[.int .u32 a, .int .u32 b, .int .u32 c, .int .i64 mode] w fun e w' => e = .returned (.int .u32 (sgn_w (decide (mode = 4)) 0)) ∧ Below w.heap.size w w' := by
  have nA : Hid (∀ v : World, Calls Tryd.prog 26 #[.int .u32 a] v fun e w' => e = .returned (.bool SA) ∧ w' = v) := TA.neg
  have qA : Hid (∀ v : World, Calls Tryd.prog 13 #[.int .u32 a] v fun e w' => e = .returned (.bool (decide (x = 3))) ∧ w' = v) := TA.nan
  have iA : Hid (∀ v : World, Calls Tryd.prog 28 #[.int .u32 a] v fun e w' => e = .returned (.bool (decide (x = 2))) ∧ w' = v) := TA.inf
  have zA : Hid (∀ v : World, Calls Tryd.prog 27 #[.int .u32 a] v fun e w' => e = .returned (.bool (decide (x = 0))) ∧ w' = v) := TA.nil
  have nB : Hid (∀ v : World, Calls Tryd.prog 26 #[.int .u32 b] v fun e w' => e = .returned (.bool SB) ∧ w' = v) := TB.neg
  have qB : Hid (∀ v : World, Calls Tryd.prog 13 #[.int .u32 b] v fun e w' => e = .returned (.bool (decide (y = 3))) ∧ w' = v) := TB.nan
  have iB : Hid (∀ v : World, Calls Tryd.prog 28 #[.int .u32 b] v fun e w' => e = .returned (.bool (decide (y = 2))) ∧ w' = v) := TB.inf
  have zB : Hid (∀ v : World, Calls Tryd.prog 27 #[.int .u32 b] v fun e w' => e = .returned (.bool (decide (y = 0))) ∧ w' = v) := TB.nil
  have nC : Hid (∀ v : World, Calls Tryd.prog 26 #[.int .u32 c] v fun e w' => e = .returned (.bool SC) ∧ w' = v) := TC.neg
  have qC : Hid (∀ v : World, Calls Tryd.prog 13 #[.int .u32 c] v fun e w' => e = .returned (.bool (decide (z = 3))) ∧ w' = v) := TC.nan
  have iC : Hid (∀ v : World, Calls Tryd.prog 28 #[.int .u32 c] v fun e w' => e = .returned (.bool (decide (z = 2))) ∧ w' = v) := TC.inf
  have zC : Hid (∀ v : World, Calls Tryd.prog 27 #[.int .u32 c] v fun e w' => e = .returned (.bool (decide (z = 0))) ∧ w' = v) := TC.nil
  clear TA TB TC
  have m1 : (m == 0) = false := by simpa using m0
  have n1 : (n == 0) = false := by simpa using n0
  clear m0 n0
  all_goals rcases (by omega : x = 0 ∨ x = 1 ∨ x = 2 ∨ x = 3) with rfl | rfl | rfl | rfl <;> rcases (by omega : y = 0 ∨ y = 1 ∨ y = 2 ∨ y = 3) with rfl | rfl | rfl | rfl <;> try (exfalso; omega)
  all_goals rcases (by omega : z = 0 ∨ z = 1 ∨ z = 2 ∨ z = 3) with rfl | rfl | rfl | rfl <;> try (exfalso; omega)
  all_goals
    simp only [Int.reduceEq, decide_false] at qA qB qC iA iB iC zA zB zC
    clear hc
    go_enter Tryd.func15, Tryd.ntmps15
    go_wp2_with (first | (go_at_call 26; (with_reducible show Calls Tryd.prog 26 #[Value.int IntKind.u32 a] _ _); refine ((Hid.out nA) _).mono ?_; rintro e w' ⟨rfl, hw⟩; subst w') | (go_at_call 26; (with_reducible show Calls Tryd.prog 26 #[Value.int IntKind.u32 b] _ _); refine ((Hid.out nB) _).mono ?_; rintro e w' ⟨rfl, hw⟩; subst w') | (go_at_call 26; (with_reducible show Calls Tryd.prog 26 #[Value.int IntKind.u32 c] _ _); refine ((Hid.out nC) _).mono ?_; rintro e w' ⟨rfl, hw⟩; subst w') | (go_at_call 13; (with_reducible show Calls Tryd.prog 13 #[Value.int IntKind.u32 a] _ _); refine ((Hid.out qA) _).mono ?_; rintro e w' ⟨rfl, hw⟩; subst w') | (go_at_call 13; (with_reducible show Calls Tryd.prog 13 #[Value.int IntKind.u32 b] _ _); refine ((Hid.out qB) _).mono ?_; rintro e w' ⟨rfl, hw⟩; subst w') | (go_at_call 13; (with_reducible show Calls Tryd.prog 13 #[Value.int IntKind.u32 c] _ _); refine ((Hid.out qC) _).mono ?_; rintro e w' ⟨rfl, hw⟩; subst w') | (go_at_call 28; (with_reducible show Calls Tryd.prog 28 #[Value.int IntKind.u32 a] _ _); refine ((Hid.out iA) _).mono ?_; rintro e w' ⟨rfl, hw⟩; subst w') | (go_at_call 28; (with_reducible show Calls Tryd.prog 28 #[Value.int IntKind.u32 b] _ _); refine ((Hid.out iB) _).mono ?_; rintro e w' ⟨rfl, hw⟩; subst w') | (go_at_call 28; (with_reducible show Calls Tryd.prog 28 #[Value.int IntKind.u32 c] _ _); refine ((Hid.out iC) _).mono ?_; rintro e w' ⟨rfl, hw⟩; subst w') | (go_at_call 27; (with_reducible show Calls Tryd.prog 27 #[Value.int IntKind.u32 a] _ _); refine ((Hid.out zA) _).mono ?_; rintro e w' ⟨rfl, hw⟩; subst w') | (go_at_call 27; (with_reducible show Calls Tryd.prog 27 #[Value.int IntKind.u32 b] _ _); refine ((Hid.out zB) _).mono ?_; rintro e w' ⟨rfl, hw⟩; subst w') | (go_at_call 27; (with_reducible show Calls Tryd.prog 27 #[Value.int IntKind.u32 c] _ _); refine ((Hid.out zC) _).mono ?_; rintro e w' ⟨rfl, hw⟩; subst w') | (go_at_call 29; refine (sSigned _ _ (by decide) (by decide) _).mono ?_; rintro e w' ⟨rfl, hw⟩; subst w') | (go_at_call 30; (with_reducible show Calls Tryd.prog 30 #[Value.int IntKind.u32 a] _ _); refine ((Hid.out pA) _).mono ?_; rintro e w' ⟨rfl, hw⟩; subst w') | (go_at_call 30; (with_reducible show Calls Tryd.prog 30 #[Value.int IntKind.u32 b] _ _); refine ((Hid.out pB) _).mono ?_; rintro e w' ⟨rfl, hw⟩; subst w') | (go_at_call 30; (with_reducible show Calls Tryd.prog 30 #[Value.int IntKind.u32 c] _ _); refine ((Hid.out pC) _).mono ?_; rintro e w' ⟨rfl, hw⟩; subst w') | (go_at_call 32; refine (zExact X E (by omega) (by omega) _).mono ?_; rintro e w1 ⟨rfl, hb1⟩))
    go_region_with (first | (go_at_call 32; refine (zExact s q (by omega) (by omega) _).mono ?_; rintro e w2 ⟨rfl, hb2⟩; (have hb2' : Below (w1.alloc (.cells #[.int .i64 X, .bool false, .slice none 0 0, .int .i64 1, .bool false, .slice none 0 0, .int .i64 E] 52)).heap.size (w1.alloc (.cells #[.int .i64 X, .bool false, .slice none 0 0, .int .i64 1, .bool false, .slice none 0 0, .int .i64 E] 52)) w2 := ⟨hb2.os, hb2.tape, hb2.output, hb2.size, hb2.block⟩); (have P2 := (hb2'.block w1.heap.size (by simp)).trans (heap_alloc_new _ _)); (have z2 := hb2'.size); (try simp at z2); obtain ⟨⟨o0, o1, o2, o3, o4, o5, o6⟩, _⟩ := blk7 P2) | (go_at_call 33; refine ((Hid.out HPl) _).mono ?_; rintro e w3 ⟨V, g, pp, l, cc, rfl, N3, hb3⟩; (have hb3' : Below w2.heap.size w2 w3 := ⟨hb3.os, hb3.tape, hb3.output, hb3.size, hb3.block⟩); (have P3 := (hb3'.block w1.heap.size (by omega)).trans P2); (have z3 := hb3'.size); obtain ⟨⟨t0, t1, t2, t3, t4, t5, t6⟩, t7, t8, t9, t10, t11, t12, t13⟩ := blk7 P3))
    all_goals
      obtain ⟨W, hW⟩ : ∃ W, W = (((((((w3.setCell ⟨w1.heap.size, 0, none⟩ (.int .i64 V)).setCell ⟨w1.heap.size, 1, none⟩ (.bool g)).setCell ⟨w1.heap.size, 2, none⟩ (.slice pp l cc)).setCell ⟨w1.heap.size, 3, none⟩ (.int .i64 1)).setCell ⟨w1.heap.size, 4, none⟩ (.bool false)).setCell ⟨w1.heap.size, 5, none⟩ (.slice none 0 0)).setCell ⟨w1.heap.size, 6, none⟩ (.int .i64 F)) := ⟨_, rfl⟩
      have NW : Num W 200 (.agg #[.int .i64 V, .bool g, .slice pp l cc]) T := by rw [hW]; exact N3.set7 t1 _ _ _ _ _ _ _
      have PW : W.heap[w1.heap.size]? = some (.cells #[.int .i64 V, .bool g, .slice pp l cc, .int .i64 1, .bool false, .slice none 0 0, .int .i64 F] 52 (0, 0)) := by rw [hW]; exact set7h P3
      have zW : w1.heap.size < W.heap.size := by rw [hW]; simp; omega
      have z1 := hb1.size
      have bW : Below w.heap.size w W := by rw [hW]; repeat (first | (with_reducible refine Below.setCell ?_ (by first | omega | (simp; try omega)) _) | (with_reducible refine Below.trans ?_ (hb3'.mono (by first | omega | (simp; try omega)))) | (with_reducible refine Below.trans ?_ (hb2'.mono (by first | omega | (simp; try omega)))) | (with_reducible refine Below.alloc ?_ (by first | omega | (simp; try omega)) _) | (with_reducible exact hb1))
      rw [← hW]
      clear hW N3 P3 P2 t0 t1 t2 t3 t4 t5 t6 t7 t8 t9 t10 t11 t12 t13 hb3 hb3' hb2 hb2' o0 o1 o2 o3 o4 o5 o6 z2 z3
      have hz85 := num_zero NW
      rw [decide_eq_true hT] at hz85
      obtain ⟨⟨o0, o1, o2, o3, o4, o5, o6⟩, _⟩ := blk7 PW
      go_wp2_with (first | (go_at_call 34; refine hz85.mono ?_; rintro e w6 ⟨rfl, hb6⟩) | (go_at_call 31; refine (nil83B false true mode _).mono ?_; rintro e w' ⟨rfl, hw⟩; subst w'))
      go_ret
      exact ⟨rfl, bW.trans (hb6.mono bW.size)⟩
end
end Go.Proofs.YtoloenkcfpfgcaaDoor.fnExactFuseWords
namespace Go.Proofs.YtoloenkcfpfgcaaDoor.fnExactFuseWords
open Go.ChangeShapes Go.WideShapes Go.ChangeAt Go.RowKit
set_option linter.unusedVariables false
/-- Both sides answer alike: one number for each three words and mode. -/
theorem both (a b c mode : Int) (a0 : 0 ≤ a) (a1 : a < 4294967296) (b0 : 0 ≤ b) (b1 : b < 4294967296) (c0 : 0 ≤ c) (c1 : c < 4294967296) (hm : 0 ≤ mode ∧ mode ≤ 4) : ∃ R : Int,
    (∀ w : World, Calls Tryd.prog 15 #[.int .u32 a, .int .u32 b, .int .u32 c, .int .i64 mode] w fun e w' => e = .returned (.int .u32 R) ∧ Below w.heap.size w w') ∧
    (∀ w : World, Forms w → Calls Tryd.prog 22 #[.int .u32 a, .int .u32 b, .int .u32 c, .int .i64 mode] w fun e w' => e = .returned (.int .u32 R) ∧ Below w.heap.size w w') := by
  obtain ⟨x, hx⟩ : ∃ x, kindI (a % 2147483648) = x := ⟨_, rfl⟩
  obtain ⟨y, hy⟩ : ∃ y, kindI (b % 2147483648) = y := ⟨_, rfl⟩
  obtain ⟨z, hz⟩ : ∃ z, kindI (c % 2147483648) = z := ⟨_, rfl⟩
  obtain ⟨SA, hSA⟩ : ∃ s, decide (2147483648 ≤ a) = s := ⟨_, rfl⟩
  obtain ⟨SB, hSB⟩ : ∃ s, decide (2147483648 ≤ b) = s := ⟨_, rfl⟩
  obtain ⟨SC, hSC⟩ : ∃ s, decide (2147483648 ≤ c) = s := ⟨_, rfl⟩
  have xb := kind_bd (a % 2147483648)
  have yb := kind_bd (b % 2147483648)
  have zb := kind_bd (c % 2147483648)
  rw [hx] at xb
  rw [hy] at yb
  rw [hz] at zb
  have TA := tests a x SA a0 a1 hx hSA
  have TB := tests b y SB b0 b1 hy hSB
  have TC := tests c z SC c0 c1 hz hSC
  by_cases h1 : x = 3 ∨ y = 3 ∨ z = 3 ∨ x = 0 ∧ y = 2 ∨ x = 2 ∧ y = 0
  · exact ⟨_, fun w => s_of a b c mode _ hm w (s_nan a b c mode x y z SA SB SC xb yb zb TA TB TC w h1), fun w G => i_nan a b c mode x y z hm a0 a1 b0 b1 c0 c1 hx hy hz w G h1⟩
  by_cases h2 : (x = 2 ∧ (y = 1 ∨ y = 2) ∨ x = 1 ∧ y = 2)
  · by_cases h3 : z = 2
    · by_cases hs : SC = (SA != SB)
      · exact ⟨_, fun w => s_of a b c mode _ hm w (s_infB a b c mode x y z SA SB SC xb yb zb TA TB TC w hs ⟨h2, h3⟩), fun w G => i_infB a b c mode x y z SA SB SC hm a0 a1 b0 b1 c0 c1 hx hy hz hSA hSB hSC w G hs ⟨h2, h3⟩⟩
      · exact ⟨_, fun w => s_of a b c mode _ hm w (s_infC a b c mode x y z SA SB SC xb yb zb TA TB TC w hs ⟨h2, h3⟩), fun w G => i_infC a b c mode x y z SA SB SC hm a0 a1 b0 b1 c0 c1 hx hy hz hSA hSB hSC w G hs ⟨h2, h3⟩⟩
    · have h4 : z = 0 ∨ z = 1 := by omega
      exact ⟨_, fun w => s_of a b c mode _ hm w (s_infA a b c mode x y z SA SB SC xb yb zb TA TB TC w ⟨h2, h4⟩), fun w G => i_infA a b c mode x y z SA SB SC hm a0 a1 b0 b1 c0 c1 hx hy hz hSA hSB hSC w G ⟨h2, h4⟩⟩
  have hxx : x = 0 ∨ x = 1 := by omega
  have hyy : y = 0 ∨ y = 1 := by omega
  by_cases h3 : z = 2
  · exact ⟨_, fun w => s_of a b c mode _ hm w (s_c a b c mode x y z SA SB SC xb yb zb TA TB TC w ⟨hxx, hyy, h3⟩), fun w G => i_c a b c mode x y z SA SB SC hm a0 a1 b0 b1 c0 c1 hx hy hz hSA hSB hSC w G ⟨hxx, hyy, h3⟩⟩
  have hzz : z = 0 ∨ z = 1 := by omega
  have fin : (x = 0 ∨ x = 1) ∧ (y = 0 ∨ y = 1) ∧ (z = 0 ∨ z = 1) := ⟨hxx, hyy, hzz⟩
  have kd : ∀ (u k : Int), 0 ≤ u → u < 4294967296 → kindI (u % 2147483648) = k → (k = 0 ∨ k = 1) → u % 2147483648 < 2139095040 ∧ (k = 0 → exS (u % 2147483648) = 0) ∧ (k = 1 → 0 < exS (u % 2147483648) ∧ 0 < u % 2147483648) := by
    intro u k u0 u1 h hk
    unfold kindI at h
    unfold exS
    refine ⟨?_, fun h0 => ?_, fun h0 => ?_⟩ <;> (repeat' split at h) <;> (repeat' split) <;> omega
  obtain ⟨la, la0, la1⟩ := kd a x a0 a1 hx hxx
  obtain ⟨lb, lb0, lb1⟩ := kd b y b0 b1 hy hyy
  obtain ⟨lc, lc0, lc1⟩ := kd c z c0 c1 hz hzz
  clear kd
  have sbA := exS_bd (a % 2147483648) (by omega)
  have pbA := exP_bd (a % 2147483648) (by omega) (by omega)
  have sbB := exS_bd (b % 2147483648) (by omega)
  have pbB := exP_bd (b % 2147483648) (by omega) (by omega)
  have sbC := exS_bd (c % 2147483648) (by omega)
  have pbC := exP_bd (c % 2147483648) (by omega) (by omega)
  have HE : ∀ v : World, Forms v → Calls Tryd.prog 53 #[.int .u32 c, .int .i64 0] v fun e w' => e = .returned (.agg #[.bool SC, .int .u64 (exS (c % 2147483648)), .int .i64 (exP (c % 2147483648)), .bool false]) ∧ Below v.heap.size v w' := fun v Gv => by
    have h := exactOf_w c c0 c1 v Gv
    rw [hSC] at h
    exact h
  have wb : 0 < c % 2147483648 → ∀ v : World, Forms v → Calls Tryd.prog 55 #[.agg #[.bool SC, .int .u64 (exS (c % 2147483648)), .int .i64 (exP (c % 2147483648)), .bool false], .int .i64 0, .int .i64 mode] v fun e w' => e = .returned (.int .u32 c) ∧ Below v.heap.size v w' := fun h0 v Gv => by
    have h := word_back c mode c0 c1 h0 lc v Gv
    rw [hSC] at h
    exact h
  have pA := fun v : World => sParts_any a a0 a1 v
  have pB := fun v : World => sParts_any b b0 b1 v
  have pC := fun v : World => sParts_any c c0 c1 v
  rw [hSA] at pA
  rw [hSB] at pB
  rw [hSC] at pC
  obtain ⟨S, hS⟩ : ∃ S, exS (a % 2147483648) = S := ⟨_, rfl⟩
  obtain ⟨p, hp⟩ : ∃ E, exP (a % 2147483648) = E := ⟨_, rfl⟩
  obtain ⟨T, hT⟩ : ∃ S, exS (b % 2147483648) = S := ⟨_, rfl⟩
  obtain ⟨q, hq⟩ : ∃ E, exP (b % 2147483648) = E := ⟨_, rfl⟩
  obtain ⟨U, hU⟩ : ∃ S, exS (c % 2147483648) = S := ⟨_, rfl⟩
  obtain ⟨r, hr⟩ : ∃ E, exP (c % 2147483648) = E := ⟨_, rfl⟩
  rw [hS] at sbA la0 la1 pA
  rw [hp] at pbA pA
  rw [hT] at sbB lb0 lb1 pB
  rw [hq] at pbB pB
  rw [hU] at sbC lc0 lc1 pC HE wb
  rw [hr] at pbC pC HE wb
  obtain ⟨s, rfl⟩ := Int.eq_ofNat_of_zero_le sbA.1
  obtain ⟨t, rfl⟩ := Int.eq_ofNat_of_zero_le sbB.1
  obtain ⟨u, rfl⟩ := Int.eq_ofNat_of_zero_le sbC.1
  obtain ⟨g, hg⟩ : ∃ z, s * t = z := ⟨_, rfl⟩
  have g1 : g < 281474976710656 := by
    rw [← hg]
    have h : s * t ≤ 16777215 * 16777215 := Nat.mul_le_mul (by omega) (by omega)
    omega
  have hgI : (s : Int) * (t : Int) = (g : Int) := by rw [← hg]; simp
  have HP : ∀ v : World, Forms v → Calls Tryd.prog 52 #[.int .u32 a, .int .u32 b] v fun e w' => e = .returned (.agg #[.bool (SA != SB), .int .u64 (g : Int), .int .i64 (p + q), .bool false]) ∧ Below v.heap.size v w' := fun v Gv =>
    prod59 a b a0 a1 b0 b1 v Gv _ _ 0 0 _ _ (g : Int) (p + q) SA SB hSA hSB hS hT hp hq sbA.1 sbA.2 sbB.1 sbB.2 pbA.1 pbA.2 pbB.1 pbB.2 hgI (by omega) (by omega) rfl
  have impl := fun (R : Int) (HR : ∀ v : World, Forms v → Calls Tryd.prog 51 #[.agg #[.bool (SA != SB), .int .u64 (g : Int), .int .i64 (p + q), .bool false], .agg #[.bool SC, .int .u64 (u : Int), .int .i64 r, .bool false], .int .i64 mode] v fun e w' => e = .returned (.int .u32 R) ∧ Below v.heap.size v w') (w : World) (G : Forms w) =>
    i_fin a b c mode x y z SA SB SC hm a0 a1 b0 b1 c0 c1 hx hy hz hSA hSB hSC w G R (g : Int) (p + q) (u : Int) r HP HE HR fin
  by_cases hg0 : g = 0
  · have hmn : sgI SA (s : Int) = 0 ∨ ¬ sgI SA (s : Int) = 0 ∧ sgI SB (t : Int) = 0 := by
      rw [hg0] at hg
      rcases Nat.mul_eq_zero.mp hg with h | h
      · left; rw [h]; cases SA <;> simp [sgI]
      · by_cases hh : sgI SA (s : Int) = 0
        · exact Or.inl hh
        · right; refine ⟨hh, ?_⟩; rw [h]; cases SB <;> simp [sgI]
    subst hg0
    rcases hzz with h0 | h0
    · have u0 : u = 0 := by have := lc0 h0; omega
      subst u0
      refine ⟨_, fun w => s_of a b c mode _ hm w (s_nn a b c mode x y z SA SB SC xb yb zb TA TB TC w _ _ _ _ pA pB hmn ⟨hxx, hyy, h0⟩), impl _ (fun v Gv => ?_)⟩
      by_cases hn : (SA != SB) = SC
      · have h := rs_same SC SC false 0 (p + q) 0 r r mode v (sum_nilx SC SC (p + q) 0 r) Gv
        have e : nilB (SA != SB) SC mode = SC := by unfold nilB; rw [hn]; simp
        rw [e, hn]
        exact h
      · have hn2 : ((SA != SB) == SC) = false := by cases h : ((SA != SB) == SC); rfl; exact absurd (eq_of_beq h) hn
        have h := rs_diff (SA != SB) SC SC false 0 (p + q) 0 r r mode v hn2 (sum_nilx (SA != SB) SC (p + q) 0 r) Gv
        have e : nilB (SA != SB) SC mode = decide (mode = 4) := by unfold nilB; rw [hn2]; rfl
        rw [e]
        exact h
    · have u0 := lc1 h0
      refine ⟨_, fun w => s_of a b c mode _ hm w (s_nc a b c mode x y z SA SB SC xb yb zb TA TB TC w _ _ _ _ pA pB hmn ⟨hxx, hyy, h0⟩), impl _ (fun v Gv => ?_)⟩
      exact rs_num (SA != SB) SC SC false 0 (p + q) (u : Int) r (u : Int) r mode c v u0.1 (sum_nilx (SA != SB) SC (p + q) (u : Int) r) (wb u0.2) Gv
  · have s0 : 0 < s := by rcases Nat.eq_zero_or_pos s with h | h; exfalso; apply hg0; rw [← hg, h, Nat.zero_mul]; exact h
    have t0 : 0 < t := by rcases Nat.eq_zero_or_pos t with h | h; exfalso; apply hg0; rw [← hg, h, Nat.mul_zero]; exact h
    have x1 : x = 1 := by rcases hxx with h | h; have := la0 h; omega; exact h
    have y1 : y = 1 := by rcases hyy with h | h; have := lb0 h; omega; exact h
    have mA : ¬ sgI SA (s : Int) = 0 := by cases SA <;> simp [sgI] <;> omega
    have mB : ¬ sgI SB (t : Int) = 0 := by cases SB <;> simp [sgI] <;> omega
    obtain ⟨X, hX⟩ : ∃ X, sgI SA (s : Int) * sgI SB (t : Int) = X := ⟨_, rfl⟩
    have hXg : X = sgI (SA != SB) (g : Int) := by
      rw [← hX, ← hgI]; cases SA <;> cases SB <;> simp [sgI, Int.neg_mul, Int.mul_neg]
    have hXa : X.natAbs = g := by rw [hXg]; cases (SA != SB) <;> simp [sgI]
    have hXn : decide (X < 0) = (SA != SB) := by rw [hXg]; cases (SA != SB) <;> simp [sgI] <;> omega
    have X0 : -281474976710656 < X := by omega
    have X1 : X < 281474976710656 := by omega
    rcases hzz with h0 | h0
    · have u0 : u = 0 := by have := lc0 h0; omega
      subst u0
      obtain ⟨R, r0, r1, hi, hs⟩ := whole_both_w (SA != SB) g (p + q) mode X hm.1 hm.2 (by omega) (by omega) (by omega) (by omega) hXa hXn
      refine ⟨R, fun w => s_of a b c mode _ hm w (s_prod a b c mode x y z SA SB SC xb yb zb TA TB TC w _ _ _ _ pA pB X (p + q) R mA mB hX X0 X1 rfl pbA.1 pbA.2 pbB.1 pbB.2 r0 r1 (fun v => ?_) (fun v => ?_) ⟨x1, y1, h0⟩), impl R (fun v Gv => ?_)⟩
      · have h := zZero X v
        rw [decide_eq_false (by omega : ¬ X = 0)] at h
        exact h
      · exact hs v 3 3 X 1 false false none none 0 0 0 0 (num_small v 3 X (by omega) (by omega)) (num_small v 3 1 (by decide) (by decide)) (by decide) (by decide)
      · exact rs_num (SA != SB) SC (SA != SB) false (g : Int) (p + q) 0 r (g : Int) (p + q) mode R v (by omega) (sum_nily (SA != SB) SC (g : Int) (p + q) r (by omega)) hi Gv
    · have u0 := (lc1 h0).1
      obtain ⟨Y, hY⟩ : ∃ Y, sgI SC (u : Int) = Y := ⟨_, rfl⟩
      have Y0 : -16777216 < Y := by rw [← hY]; cases SC <;> simp [sgI] <;> omega
      have Y1 : Y < 16777216 := by rw [← hY]; cases SC <;> simp [sgI] <;> omega
      rw [hY] at pC
      obtain ⟨F, M, hF, hM, HPl⟩ : ∃ F M : Int, (F = p + q ∧ p + q ≤ r ∨ F = r ∧ r ≤ p + q) ∧ M = sgI (SA != SB) (g : Int) * 2 ^ (p + q - F).toNat + sgI SC (u : Int) * 2 ^ (r - F).toNat ∧
          (∀ v : World, Calls Tryd.prog 33 #[.agg #[.int .i64 X, .bool false, .slice none 0 0, .int .i64 1, .bool false, .slice none 0 0, .int .i64 (p + q)], .agg #[.int .i64 Y, .bool false, .slice none 0 0, .int .i64 1, .bool false, .slice none 0 0, .int .i64 r]] v fun e w' => ∃ V g pp l c, e = .returned (.agg #[.int .i64 V, .bool g, .slice pp l c, .int .i64 1, .bool false, .slice none 0 0, .int .i64 F]) ∧ Num w' 200 (.agg #[.int .i64 V, .bool g, .slice pp l c]) M ∧ Below v.heap.size v w') := by
        by_cases hle : p + q ≤ r
        · refine ⟨p + q, X + Y * 2 ^ (r - (p + q)).toNat, Or.inl ⟨rfl, hle⟩, ?_, fun v => plus84_le X Y (p + q) r (r - (p + q)).toNat (by omega) (by omega) (by omega) (by omega) (by omega) (by omega) (by omega) (by omega) (by omega) (by omega) v⟩
          rw [← hXg, hY, show (p + q - (p + q)).toNat = 0 by omega]; simp
        · refine ⟨r, Y + X * 2 ^ (p + q - r).toNat, Or.inr ⟨rfl, by omega⟩, ?_, fun v => plus84_gt X Y (p + q) r (p + q - r).toNat (by omega) (by omega) (by omega) (by omega) (by omega) (by omega) (by omega) (by omega) (by omega) (by omega) (by omega) v⟩
          rw [← hXg, hY, show (r - r).toNat = 0 by omega]; simp [Int.add_comm]
      rcases sum_both (SA != SB) SC g u (p + q) r mode hm.1 hm.2 (by omega) g1 (by omega) (by omega) (by omega) (by omega) (by omega) (by omega) F M hF hM with ⟨M0, hi⟩ | ⟨M0, R, r0, r1, hi, hs⟩
      · exact ⟨_, fun w => s_of a b c mode _ hm w (s_sum0 a b c mode x y z SA SB SC xb yb zb TA TB TC w _ _ _ _ pA pB X (p + q) Y r F mA mB hX X0 X1 Y0 Y1 rfl pbA.1 pbA.2 pbB.1 pbB.2 pC M HPl M0 ⟨x1, y1, h0⟩), impl _ hi⟩
      · exact ⟨R, fun w => s_of a b c mode _ hm w (s_sum a b c mode x y z SA SB SC xb yb zb TA TB TC w _ _ _ _ pA pB X (p + q) Y r F mA mB hX X0 X1 Y0 Y1 rfl pbA.1 pbA.2 pbB.1 pbB.2 pC M HPl M0 R r0 r1 (fun v K VP gP pP lP cP NP k2 k9 => hs v K 3 VP 1 gP false pP none lP cP 0 0 NP (num_small v 3 1 (by decide) (by decide)) k2 k9) ⟨x1, y1, h0⟩), impl R hi⟩
end Go.Proofs.YtoloenkcfpfgcaaDoor.fnExactFuseWords
namespace Go.Proofs.YtoloenkcfpfgcaaDoor
open Go.ChangeShapes Go.WideShapes Go.ChangeAt Go.RowKit
set_option linter.unusedVariables false
set_option maxRecDepth 100000 in
set_option maxHeartbeats 4000000 in
theorem fma_f (s : ByteArray) (es : s.toList = [102, 109, 97]) (d0 d1 d2 : Int) (p0 : 0 ≤ d0) (p1 : d0 < 4294967296) (q0 : 0 ≤ d1) (q1 : d1 < 4294967296) (r0 : 0 ≤ d2) (r1 : d2 < 4294967296) : ∃ R : Int, (∀ (w : World) (a n : Nat), n = 3 → w.cell? ⟨a, 0, none⟩ = some (.int .u32 d0) → (2 ≤ n → w.cell? ⟨a, 1, none⟩ = some (.int .u32 d1)) → (3 ≤ n → w.cell? ⟨a, 2, none⟩ = some (.int .u32 d2)) → Calls Tryd.prog 9 #[.string s, .bool true, .slice (some ⟨a, 0, none⟩) n n] w fun e w' => e = .returned (.int .u32 R) ∧ Below w.heap.size w w') ∧ (∀ w : World, Forms w → Calls Tryd.prog 12 #[.string s, .agg #[.int .u32 d0, .int .u32 d1, .int .u32 d2]] w fun e w' => e = .returned (.int .u32 R) ∧ Below w.heap.size w w') := by
  have f0 : (s.toList == [97, 98, 115]) = false := by rw [es]; rfl
  have f1 : (s.toList == [109, 105, 110]) = false := by rw [es]; rfl
  have f2 : (s.toList == [109, 97, 120]) = false := by rw [es]; rfl
  have f3 : (s.toList == [102, 109, 97]) = true := by rw [es]; rfl
  have f4 : (s.toList == [115, 113, 114, 116]) = false := by rw [es]; rfl
  have f5 : (s.toList == [102, 108, 111, 97, 116]) = false := by rw [es]; rfl
  have f6 : (s.toList == [105, 110, 116]) = false := by rw [es]; rfl
  clear es
  obtain ⟨R, hs, hi⟩ := fnExactFuseWords.both d0 d1 d2 0 p0 p1 q0 q1 r0 r1 (by omega)
  have HS : Hid (∀ w : World, Calls Tryd.prog 15 #[.int .u32 d0, .int .u32 d1, .int .u32 d2, .int .i64 0] w fun e w' => e = .returned (.int .u32 R) ∧ Below w.heap.size w w') := hs
  have HI : Hid (∀ w : World, Forms w → Calls Tryd.prog 22 #[.int .u32 d0, .int .u32 d1, .int .u32 d2, .int .i64 0] w fun e w' => e = .returned (.int .u32 R) ∧ Below w.heap.size w w') := hi
  clear hs hi
  refine ⟨R, fun w a n hn c0 c1 c2 => ?_, fun w G => ?_⟩
  · subst hn
    have c1 := c1 (by omega)
    have c2 := c2 (by omega)
    go_enter Tryd.func9, Tryd.ntmps9
    go_wp2
    go_region_held3 (fun v => v.cell? ⟨a, 1, none⟩ = some (.int .u32 d1) ∧ v.cell? ⟨a, 2, none⟩ = some (.int .u32 d2)) (first | (with_reducible exact ⟨c1, c2⟩) | (go_keep; done)) (first | (go_at_call 15; refine (HS.out _).mono ?_; rintro e w1 ⟨rfl, b1⟩; (have c1 := (b1.cell (p := ⟨a, 1, none⟩) (World.block_lt_of_cell? _ ⟨a, 1, none⟩ c1)).trans c1); (have c2 := (b1.cell (p := ⟨a, 2, none⟩) (World.block_lt_of_cell? _ ⟨a, 2, none⟩ c2)).trans c2)))
    go_wp2
    go_ret
    exact ⟨rfl, ⟨b1.os, b1.tape, b1.output, b1.size, b1.block⟩⟩
  · have bx : Below w.heap.size w (w.alloc (.cells #[.int .u32 d0, .int .u32 d1, .int .u32 d2] 30)) := (Below.refl _ _).alloc (Nat.le_refl _) _
    have G1 := G.below bx
    go_enter Tryd.func12, Tryd.ntmps12
    go_wp2
    go_quiet (fail)
    go_wp2_with (go_at_call 22; refine (HI.out _ (by first | exact G1 | exact G1.below (below_drewN (Below.refl _ _) _))).mono ?_; rintro e w1 ⟨rfl, b1⟩)
    go_ret
    exact ⟨rfl, (below_drewN bx _).trans (b1.mono (by simp))⟩
set_option maxRecDepth 100000 in
set_option maxHeartbeats 4000000 in
theorem none_w (s : ByteArray) (f0 : (s.toList == [97, 98, 115]) = false) (f1 : (s.toList == [109, 105, 110]) = false) (f2 : (s.toList == [109, 97, 120]) = false) (f3 : (s.toList == [102, 109, 97]) = false) (f4 : (s.toList == [115, 113, 114, 116]) = false) (f5 : (s.toList == [102, 108, 111, 97, 116]) = false) (f6 : (s.toList == [105, 110, 116]) = false) (d0 d1 d2 : Int) (p0 : 0 ≤ d0) (p1 : d0 < 4294967296) (q0 : 0 ≤ d1) (q1 : d1 < 4294967296) (r0 : 0 ≤ d2) (r1 : d2 < 4294967296) (w : World) (G : Forms w) : Calls Tryd.prog 11 #[.string s, .agg #[.int .u32 d0, .int .u32 d1, .int .u32 d2]] w fun e w' => e = .returned (.int .u32 0) ∧ Below w.heap.size w w' := by
  have bx : Below w.heap.size w (w.alloc (.cells #[.int .u32 d0, .int .u32 d1, .int .u32 d2] 30)) := (Below.refl _ _).alloc (Nat.le_refl _) _
  go_enter Tryd.func11, Tryd.ntmps11
  go_wp2
  go_quiet (fail)
  go_wp2
  go_ret
  exact ⟨rfl, below_drewN bx _⟩
set_option maxRecDepth 100000 in
set_option maxHeartbeats 4000000 in
theorem none_f (s : ByteArray) (f0 : (s.toList == [97, 98, 115]) = false) (f1 : (s.toList == [109, 105, 110]) = false) (f2 : (s.toList == [109, 97, 120]) = false) (f3 : (s.toList == [102, 109, 97]) = false) (f4 : (s.toList == [115, 113, 114, 116]) = false) (f5 : (s.toList == [102, 108, 111, 97, 116]) = false) (f6 : (s.toList == [105, 110, 116]) = false) (d0 d1 d2 : Int) (p0 : 0 ≤ d0) (p1 : d0 < 4294967296) (q0 : 0 ≤ d1) (q1 : d1 < 4294967296) (r0 : 0 ≤ d2) (r1 : d2 < 4294967296) (w : World) (G : Forms w) : Calls Tryd.prog 12 #[.string s, .agg #[.int .u32 d0, .int .u32 d1, .int .u32 d2]] w fun e w' => e = .returned (.int .u32 0) ∧ Below w.heap.size w w' := by
  have bx : Below w.heap.size w (w.alloc (.cells #[.int .u32 d0, .int .u32 d1, .int .u32 d2] 30)) := (Below.refl _ _).alloc (Nat.le_refl _) _
  go_enter Tryd.func12, Tryd.ntmps12
  go_wp2
  go_quiet (fail)
  go_wp2
  go_ret
  exact ⟨rfl, below_drewN bx _⟩
end Go.Proofs.YtoloenkcfpfgcaaDoor
namespace Go.Proofs.YtoloenkcfpfgcaaDoor.Ca
open Go.ChangeShapes Go.WideShapes Go.ChangeAt Go.RowKit
set_option linter.unusedVariables false
theorem gTab : Tryd.prog.globalNamed "loop.example/g00053/impl.callForms" = some 0 := by kernel_rfl
theorem gTabType : (Tryd.prog.globals[0]?).map (·.type) = some 39 := by kernel_rfl
theorem cells31 : Tryd.prog.cellsOf 39 = 22 := by kernel_rfl
theorem cells30 : Tryd.prog.cellsOf 38 = 2 := by kernel_rfl
theorem cells3 : Tryd.prog.cellsOf 3 = 1 := by kernel_rfl
theorem cells9 : Tryd.prog.cellsOf 9 = 1 := by kernel_rfl
def cellsT : Array Value := #[.string ⟨#[97, 98, 115]⟩, .int .i64 1, .string ⟨#[102, 108, 111, 97, 116]⟩, .int .i64 1, .string ⟨#[102, 109, 97]⟩, .int .i64 3, .string ⟨#[103, 114, 111, 117, 112]⟩, .int .i64 0, .string ⟨#[105, 110, 116]⟩, .int .i64 1, .string ⟨#[108, 111, 99, 97, 108]⟩, .int .i64 0, .string ⟨#[109, 97, 120]⟩, .int .i64 2, .string ⟨#[109, 105, 110]⟩, .int .i64 2, .string ⟨#[115, 105, 122, 101]⟩, .int .i64 0, .string ⟨#[115, 113, 114, 116]⟩, .int .i64 1, .string ⟨#[116, 105, 100]⟩, .int .i64 0]
theorem str_of (s : ByteArray) (l : List UInt8) (h : s.data.toList = l) : s = ⟨l.toArray⟩ := by
  obtain ⟨a⟩ := s
  subst h
  simp
theorem pair_of_trod {H : Type} {enc : TypeId × Value → H} {w : World} {base : Nat} {sp : Nat → Bool} {held : Bool} {fuel : Nat} {c0 c1 : Value} {y : DataW H × List MemPlace}
    (h : DataW.trod enc Tryd.prog w base sp held fuel 38 [c0, c1] = some y) :
    ∃ (s : ByteArray) (n : Int), c0 = .string s ∧ c1 = .int .i64 n ∧ y.1 = .agg [.lit (.string s.data.toList), .lit (.int .i64 n)] := by
  cases fuel with
  | zero => simp [DataW.trod] at h
  | succ fuel =>
    simp only [DataW.trod, Tryd.underlying38, cells30] at h
    simp only [List.length_cons, List.length_nil, if_true, Option.map_eq_some_iff, List.mapM_cons, List.mapM_nil, Option.bind_eq_bind, Option.bind_eq_some_iff, Option.pure_def, Option.some.injEq, cells3, cells9, List.drop, List.take] at h
    obtain ⟨xs, ⟨y0, h0, _, ⟨y1, h1, _, rfl, rfl⟩, rfl⟩, rfl⟩ := h
    obtain ⟨s, e0, rfl, _⟩ := DataW.trod_string Tryd.underlying9 h0
    obtain ⟨n, e1, rfl, _⟩ := DataW.trod_int Tryd.underlying3 h1
    simp only [List.cons.injEq, and_true] at e0 e1
    exact ⟨s, n, e0, e1, rfl⟩
set_option maxHeartbeats 1000000 in
theorem cells_of_laid {W : World} {r : List (String × DataW Unit)} (h : laidMet Tryd.prog (("loop.example/g00053/impl.callForms", Rows.laid_loop_example_g00053_impl_callForms) :: r) W) : W.var? Tryd.prog "loop.example/g00053/impl.callForms" = some cellsT := by
  obtain ⟨ps, ⟨g, t, cs, fuel, p, q, hg, ht, hvar, hd, _, _⟩, _⟩ := h
  obtain rfl := Option.some.inj (gTab.symm.trans hg)
  obtain rfl := Option.some.inj (gTabType.symm.trans ht)
  rw [hvar]
  congr 1
  obtain ⟨l⟩ := cs
  cases fuel with
  | zero => simp [DataW.trod] at hd
  | succ fuel =>
    simp only [DataW.trod, Tryd.underlying39, cells31, cells30] at hd
    split at hd
    · rename_i hl
      obtain ⟨c0, c1, c2, c3, c4, c5, c6, c7, c8, c9, c10, c11, c12, c13, c14, c15, c16, c17, c18, c19, c20, c21, rfl⟩ : ∃ c0 c1 c2 c3 c4 c5 c6 c7 c8 c9 c10 c11 c12 c13 c14 c15 c16 c17 c18 c19 c20 c21, l = [c0, c1, c2, c3, c4, c5, c6, c7, c8, c9, c10, c11, c12, c13, c14, c15, c16, c17, c18, c19, c20, c21] := by
        match l, hl with
        | [a0, a1, a2, a3, a4, a5, a6, a7, a8, a9, a10, a11, a12, a13, a14, a15, a16, a17, a18, a19, a20, a21], _ => exact ⟨a0, a1, a2, a3, a4, a5, a6, a7, a8, a9, a10, a11, a12, a13, a14, a15, a16, a17, a18, a19, a20, a21, rfl⟩
      have e : List.range 11 = [0, 1, 2, 3, 4, 5, 6, 7, 8, 9, 10] := rfl
      rw [e] at hd
      simp only [Option.map_eq_some_iff, List.mapM_cons, List.mapM_nil, Option.bind_eq_bind, Option.bind_eq_some_iff, Option.pure_def, Option.some.injEq, List.drop, List.take] at hd
      obtain ⟨xs, ⟨y0, h0, _, ⟨y1, h1, _, ⟨y2, h2, _, ⟨y3, h3, _, ⟨y4, h4, _, ⟨y5, h5, _, ⟨y6, h6, _, ⟨y7, h7, _, ⟨y8, h8, _, ⟨y9, h9, _, ⟨y10, h10, _, rfl, rfl⟩, rfl⟩, rfl⟩, rfl⟩, rfl⟩, rfl⟩, rfl⟩, rfl⟩, rfl⟩, rfl⟩, rfl⟩, hx⟩ := hd
      obtain ⟨s0, n0, rfl, rfl, e0⟩ := pair_of_trod h0
      obtain ⟨s1, n1, rfl, rfl, e1⟩ := pair_of_trod h1
      obtain ⟨s2, n2, rfl, rfl, e2⟩ := pair_of_trod h2
      obtain ⟨s3, n3, rfl, rfl, e3⟩ := pair_of_trod h3
      obtain ⟨s4, n4, rfl, rfl, e4⟩ := pair_of_trod h4
      obtain ⟨s5, n5, rfl, rfl, e5⟩ := pair_of_trod h5
      obtain ⟨s6, n6, rfl, rfl, e6⟩ := pair_of_trod h6
      obtain ⟨s7, n7, rfl, rfl, e7⟩ := pair_of_trod h7
      obtain ⟨s8, n8, rfl, rfl, e8⟩ := pair_of_trod h8
      obtain ⟨s9, n9, rfl, rfl, e9⟩ := pair_of_trod h9
      obtain ⟨s10, n10, rfl, rfl, e10⟩ := pair_of_trod h10
      simp [Rows.laid_loop_example_g00053_impl_callForms, e0, e1, e2, e3, e4, e5, e6, e7, e8, e9, e10] at hx
      obtain ⟨⟨⟨q0, rfl⟩, ⟨q1, rfl⟩, ⟨q2, rfl⟩, ⟨q3, rfl⟩, ⟨q4, rfl⟩, ⟨q5, rfl⟩, ⟨q6, rfl⟩, ⟨q7, rfl⟩, ⟨q8, rfl⟩, ⟨q9, rfl⟩, ⟨q10, rfl⟩⟩, _⟩ := hx
      obtain rfl := str_of s0 [97, 98, 115] (by simpa using q0)
      obtain rfl := str_of s1 [102, 108, 111, 97, 116] (by simpa using q1)
      obtain rfl := str_of s2 [102, 109, 97] (by simpa using q2)
      obtain rfl := str_of s3 [103, 114, 111, 117, 112] (by simpa using q3)
      obtain rfl := str_of s4 [105, 110, 116] (by simpa using q4)
      obtain rfl := str_of s5 [108, 111, 99, 97, 108] (by simpa using q5)
      obtain rfl := str_of s6 [109, 97, 120] (by simpa using q6)
      obtain rfl := str_of s7 [109, 105, 110] (by simpa using q7)
      obtain rfl := str_of s8 [115, 105, 122, 101] (by simpa using q8)
      obtain rfl := str_of s9 [115, 113, 114, 116] (by simpa using q9)
      obtain rfl := str_of s10 [116, 105, 100] (by simpa using q10)
      rfl
    · cases hd
/-- The table of calls holds its names and numbers. -/
structure Forms (w : World) : Prop where
  c0 : w.cell? ⟨0, 0, none⟩ = some (.string ⟨#[97, 98, 115]⟩)
  c1 : w.cell? ⟨0, 1, none⟩ = some (.int .i64 1)
  c2 : w.cell? ⟨0, 2, none⟩ = some (.string ⟨#[102, 108, 111, 97, 116]⟩)
  c3 : w.cell? ⟨0, 3, none⟩ = some (.int .i64 1)
  c4 : w.cell? ⟨0, 4, none⟩ = some (.string ⟨#[102, 109, 97]⟩)
  c5 : w.cell? ⟨0, 5, none⟩ = some (.int .i64 3)
  c6 : w.cell? ⟨0, 6, none⟩ = some (.string ⟨#[103, 114, 111, 117, 112]⟩)
  c7 : w.cell? ⟨0, 7, none⟩ = some (.int .i64 0)
  c8 : w.cell? ⟨0, 8, none⟩ = some (.string ⟨#[105, 110, 116]⟩)
  c9 : w.cell? ⟨0, 9, none⟩ = some (.int .i64 1)
  c10 : w.cell? ⟨0, 10, none⟩ = some (.string ⟨#[108, 111, 99, 97, 108]⟩)
  c11 : w.cell? ⟨0, 11, none⟩ = some (.int .i64 0)
  c12 : w.cell? ⟨0, 12, none⟩ = some (.string ⟨#[109, 97, 120]⟩)
  c13 : w.cell? ⟨0, 13, none⟩ = some (.int .i64 2)
  c14 : w.cell? ⟨0, 14, none⟩ = some (.string ⟨#[109, 105, 110]⟩)
  c15 : w.cell? ⟨0, 15, none⟩ = some (.int .i64 2)
  c16 : w.cell? ⟨0, 16, none⟩ = some (.string ⟨#[115, 105, 122, 101]⟩)
  c17 : w.cell? ⟨0, 17, none⟩ = some (.int .i64 0)
  c18 : w.cell? ⟨0, 18, none⟩ = some (.string ⟨#[115, 113, 114, 116]⟩)
  c19 : w.cell? ⟨0, 19, none⟩ = some (.int .i64 1)
  c20 : w.cell? ⟨0, 20, none⟩ = some (.string ⟨#[116, 105, 100]⟩)
  c21 : w.cell? ⟨0, 21, none⟩ = some (.int .i64 0)
theorem lt_of_cell {w : World} {a : Addr} {v : Value} (h : w.cell? a = some v) : a.block < w.heap.size := by
  unfold World.cell? at h
  rcases Nat.lt_or_ge a.block w.heap.size with h' | h'
  · exact h'
  · rw [Array.getElem?_eq_none h'] at h; cases h
theorem Forms.pos {w : World} (h : Forms w) : 0 < w.heap.size := lt_of_cell h.c0
theorem forms_of_laid {W : World} {r : List (String × DataW Unit)} (h : laidMet Tryd.prog (("loop.example/g00053/impl.callForms", Rows.laid_loop_example_g00053_impl_callForms) :: r) W) : Forms W := by
  have hv := cells_of_laid h
  exact ⟨World.var?_cell gTab hv 0, World.var?_cell gTab hv 1, World.var?_cell gTab hv 2, World.var?_cell gTab hv 3, World.var?_cell gTab hv 4, World.var?_cell gTab hv 5, World.var?_cell gTab hv 6, World.var?_cell gTab hv 7, World.var?_cell gTab hv 8, World.var?_cell gTab hv 9, World.var?_cell gTab hv 10, World.var?_cell gTab hv 11, World.var?_cell gTab hv 12, World.var?_cell gTab hv 13, World.var?_cell gTab hv 14, World.var?_cell gTab hv 15, World.var?_cell gTab hv 16, World.var?_cell gTab hv 17, World.var?_cell gTab hv 18, World.var?_cell gTab hv 19, World.var?_cell gTab hv 20, World.var?_cell gTab hv 21⟩
theorem Forms.below {w w' : World} (h : Forms w) (b : Below w.heap.size w w') : Forms w' := by
  have hp := h.pos
  exact ⟨(b.cell hp).trans h.c0, (b.cell hp).trans h.c1, (b.cell hp).trans h.c2, (b.cell hp).trans h.c3, (b.cell hp).trans h.c4, (b.cell hp).trans h.c5, (b.cell hp).trans h.c6, (b.cell hp).trans h.c7, (b.cell hp).trans h.c8, (b.cell hp).trans h.c9, (b.cell hp).trans h.c10, (b.cell hp).trans h.c11, (b.cell hp).trans h.c12, (b.cell hp).trans h.c13, (b.cell hp).trans h.c14, (b.cell hp).trans h.c15, (b.cell hp).trans h.c16, (b.cell hp).trans h.c17, (b.cell hp).trans h.c18, (b.cell hp).trans h.c19, (b.cell hp).trans h.c20, (b.cell hp).trans h.c21⟩
def tableH {H : Type} : DataW H := .agg [.agg [.lit (.string [97, 98, 115]), .lit (.int .i64 1)], .agg [.lit (.string [102, 108, 111, 97, 116]), .lit (.int .i64 1)], .agg [.lit (.string [102, 109, 97]), .lit (.int .i64 3)], .agg [.lit (.string [103, 114, 111, 117, 112]), .lit (.int .i64 0)], .agg [.lit (.string [105, 110, 116]), .lit (.int .i64 1)], .agg [.lit (.string [108, 111, 99, 97, 108]), .lit (.int .i64 0)], .agg [.lit (.string [109, 97, 120]), .lit (.int .i64 2)], .agg [.lit (.string [109, 105, 110]), .lit (.int .i64 2)], .agg [.lit (.string [115, 105, 122, 101]), .lit (.int .i64 0)], .agg [.lit (.string [115, 113, 114, 116]), .lit (.int .i64 1)], .agg [.lit (.string [116, 105, 100]), .lit (.int .i64 0)]]
theorem reads_table {H : Type} (enc : TypeId × Value → H) (W : World) (sp : Nat → Bool) : DataW.trod enc Tryd.prog W 0 sp true 4 39 cellsT.toList = some (tableH, []) := by kernel_rfl
end Go.Proofs.YtoloenkcfpfgcaaDoor.Ca
namespace Go.Proofs.YtoloenkcfpfgcaaDoor.Ca
open Go.ChangeShapes Go.WideShapes Go.ChangeAt Go.RowKit
set_option linter.unusedVariables false
def ar (s : ByteArray) : Int :=
  if s.toList = [97, 98, 115] then 1
  else if s.toList = [102, 108, 111, 97, 116] then 1
  else if s.toList = [102, 109, 97] then 3
  else if s.toList = [103, 114, 111, 117, 112] then 0
  else if s.toList = [105, 110, 116] then 1
  else if s.toList = [108, 111, 99, 97, 108] then 0
  else if s.toList = [109, 97, 120] then 2
  else if s.toList = [109, 105, 110] then 2
  else if s.toList = [115, 105, 122, 101] then 0
  else if s.toList = [115, 113, 114, 116] then 1
  else if s.toList = [116, 105, 100] then 0
  else -1
theorem ix0 (w : World) : (Instr.index 39 (.agg cellsT) (.int .i64 0)).run Tryd.prog w = .ok (.agg #[.string ⟨#[97, 98, 115]⟩, .int .i64 1]) w := by kernel_rfl
theorem ix1 (w : World) : (Instr.index 39 (.agg cellsT) (.int .i64 1)).run Tryd.prog w = .ok (.agg #[.string ⟨#[102, 108, 111, 97, 116]⟩, .int .i64 1]) w := by kernel_rfl
theorem ix2 (w : World) : (Instr.index 39 (.agg cellsT) (.int .i64 2)).run Tryd.prog w = .ok (.agg #[.string ⟨#[102, 109, 97]⟩, .int .i64 3]) w := by kernel_rfl
theorem ix3 (w : World) : (Instr.index 39 (.agg cellsT) (.int .i64 3)).run Tryd.prog w = .ok (.agg #[.string ⟨#[103, 114, 111, 117, 112]⟩, .int .i64 0]) w := by kernel_rfl
theorem ix4 (w : World) : (Instr.index 39 (.agg cellsT) (.int .i64 4)).run Tryd.prog w = .ok (.agg #[.string ⟨#[105, 110, 116]⟩, .int .i64 1]) w := by kernel_rfl
theorem ix5 (w : World) : (Instr.index 39 (.agg cellsT) (.int .i64 5)).run Tryd.prog w = .ok (.agg #[.string ⟨#[108, 111, 99, 97, 108]⟩, .int .i64 0]) w := by kernel_rfl
theorem ix6 (w : World) : (Instr.index 39 (.agg cellsT) (.int .i64 6)).run Tryd.prog w = .ok (.agg #[.string ⟨#[109, 97, 120]⟩, .int .i64 2]) w := by kernel_rfl
theorem ix7 (w : World) : (Instr.index 39 (.agg cellsT) (.int .i64 7)).run Tryd.prog w = .ok (.agg #[.string ⟨#[109, 105, 110]⟩, .int .i64 2]) w := by kernel_rfl
theorem ix8 (w : World) : (Instr.index 39 (.agg cellsT) (.int .i64 8)).run Tryd.prog w = .ok (.agg #[.string ⟨#[115, 105, 122, 101]⟩, .int .i64 0]) w := by kernel_rfl
theorem ix9 (w : World) : (Instr.index 39 (.agg cellsT) (.int .i64 9)).run Tryd.prog w = .ok (.agg #[.string ⟨#[115, 113, 114, 116]⟩, .int .i64 1]) w := by kernel_rfl
theorem ix10 (w : World) : (Instr.index 39 (.agg cellsT) (.int .i64 10)).run Tryd.prog w = .ok (.agg #[.string ⟨#[116, 105, 100]⟩, .int .i64 0]) w := by kernel_rfl
set_option maxRecDepth 100000 in
set_option maxHeartbeats 4000000 in
theorem arity10 (s : ByteArray) (w : World) : Calls Tryd.prog 8 #[.string s] w fun e w' => e = .returned (.int .i64 (ar s)) ∧ w' = w := by
  by_cases e0 : s.toList = [97, 98, 115]
  · rw [show ar s = 1 by unfold ar; rw [e0]; rfl]
    have f0 : (s.toList == [97, 98, 115]) = true := by rw [e0]; rfl
    have g0 : ([97, 98, 115] == s.toList) = true := by rw [e0]; rfl
    have f1 : (s.toList == [102, 108, 111, 97, 116]) = false := by rw [e0]; rfl
    have g1 : ([102, 108, 111, 97, 116] == s.toList) = false := by rw [e0]; rfl
    have f2 : (s.toList == [102, 109, 97]) = false := by rw [e0]; rfl
    have g2 : ([102, 109, 97] == s.toList) = false := by rw [e0]; rfl
    have f3 : (s.toList == [103, 114, 111, 117, 112]) = false := by rw [e0]; rfl
    have g3 : ([103, 114, 111, 117, 112] == s.toList) = false := by rw [e0]; rfl
    have f4 : (s.toList == [105, 110, 116]) = false := by rw [e0]; rfl
    have g4 : ([105, 110, 116] == s.toList) = false := by rw [e0]; rfl
    have f5 : (s.toList == [108, 111, 99, 97, 108]) = false := by rw [e0]; rfl
    have g5 : ([108, 111, 99, 97, 108] == s.toList) = false := by rw [e0]; rfl
    have f6 : (s.toList == [109, 97, 120]) = false := by rw [e0]; rfl
    have g6 : ([109, 97, 120] == s.toList) = false := by rw [e0]; rfl
    have f7 : (s.toList == [109, 105, 110]) = false := by rw [e0]; rfl
    have g7 : ([109, 105, 110] == s.toList) = false := by rw [e0]; rfl
    have f8 : (s.toList == [115, 105, 122, 101]) = false := by rw [e0]; rfl
    have g8 : ([115, 105, 122, 101] == s.toList) = false := by rw [e0]; rfl
    have f9 : (s.toList == [115, 113, 114, 116]) = false := by rw [e0]; rfl
    have g9 : ([115, 113, 114, 116] == s.toList) = false := by rw [e0]; rfl
    have f10 : (s.toList == [116, 105, 100]) = false := by rw [e0]; rfl
    have g10 : ([116, 105, 100] == s.toList) = false := by rw [e0]; rfl
    clear e0
    go_enter Tryd.func8, Tryd.ntmps8
    go_wp2
    go_ret
    exact ⟨rfl, rfl⟩
  by_cases e1 : s.toList = [102, 108, 111, 97, 116]
  · rw [show ar s = 1 by unfold ar; rw [e1]; rfl]
    have f0 : (s.toList == [97, 98, 115]) = false := by rw [e1]; rfl
    have g0 : ([97, 98, 115] == s.toList) = false := by rw [e1]; rfl
    have f1 : (s.toList == [102, 108, 111, 97, 116]) = true := by rw [e1]; rfl
    have g1 : ([102, 108, 111, 97, 116] == s.toList) = true := by rw [e1]; rfl
    have f2 : (s.toList == [102, 109, 97]) = false := by rw [e1]; rfl
    have g2 : ([102, 109, 97] == s.toList) = false := by rw [e1]; rfl
    have f3 : (s.toList == [103, 114, 111, 117, 112]) = false := by rw [e1]; rfl
    have g3 : ([103, 114, 111, 117, 112] == s.toList) = false := by rw [e1]; rfl
    have f4 : (s.toList == [105, 110, 116]) = false := by rw [e1]; rfl
    have g4 : ([105, 110, 116] == s.toList) = false := by rw [e1]; rfl
    have f5 : (s.toList == [108, 111, 99, 97, 108]) = false := by rw [e1]; rfl
    have g5 : ([108, 111, 99, 97, 108] == s.toList) = false := by rw [e1]; rfl
    have f6 : (s.toList == [109, 97, 120]) = false := by rw [e1]; rfl
    have g6 : ([109, 97, 120] == s.toList) = false := by rw [e1]; rfl
    have f7 : (s.toList == [109, 105, 110]) = false := by rw [e1]; rfl
    have g7 : ([109, 105, 110] == s.toList) = false := by rw [e1]; rfl
    have f8 : (s.toList == [115, 105, 122, 101]) = false := by rw [e1]; rfl
    have g8 : ([115, 105, 122, 101] == s.toList) = false := by rw [e1]; rfl
    have f9 : (s.toList == [115, 113, 114, 116]) = false := by rw [e1]; rfl
    have g9 : ([115, 113, 114, 116] == s.toList) = false := by rw [e1]; rfl
    have f10 : (s.toList == [116, 105, 100]) = false := by rw [e1]; rfl
    have g10 : ([116, 105, 100] == s.toList) = false := by rw [e1]; rfl
    clear e0 e1
    go_enter Tryd.func8, Tryd.ntmps8
    go_wp2
    go_ret
    exact ⟨rfl, rfl⟩
  by_cases e2 : s.toList = [102, 109, 97]
  · rw [show ar s = 3 by unfold ar; rw [e2]; rfl]
    have f0 : (s.toList == [97, 98, 115]) = false := by rw [e2]; rfl
    have g0 : ([97, 98, 115] == s.toList) = false := by rw [e2]; rfl
    have f1 : (s.toList == [102, 108, 111, 97, 116]) = false := by rw [e2]; rfl
    have g1 : ([102, 108, 111, 97, 116] == s.toList) = false := by rw [e2]; rfl
    have f2 : (s.toList == [102, 109, 97]) = true := by rw [e2]; rfl
    have g2 : ([102, 109, 97] == s.toList) = true := by rw [e2]; rfl
    have f3 : (s.toList == [103, 114, 111, 117, 112]) = false := by rw [e2]; rfl
    have g3 : ([103, 114, 111, 117, 112] == s.toList) = false := by rw [e2]; rfl
    have f4 : (s.toList == [105, 110, 116]) = false := by rw [e2]; rfl
    have g4 : ([105, 110, 116] == s.toList) = false := by rw [e2]; rfl
    have f5 : (s.toList == [108, 111, 99, 97, 108]) = false := by rw [e2]; rfl
    have g5 : ([108, 111, 99, 97, 108] == s.toList) = false := by rw [e2]; rfl
    have f6 : (s.toList == [109, 97, 120]) = false := by rw [e2]; rfl
    have g6 : ([109, 97, 120] == s.toList) = false := by rw [e2]; rfl
    have f7 : (s.toList == [109, 105, 110]) = false := by rw [e2]; rfl
    have g7 : ([109, 105, 110] == s.toList) = false := by rw [e2]; rfl
    have f8 : (s.toList == [115, 105, 122, 101]) = false := by rw [e2]; rfl
    have g8 : ([115, 105, 122, 101] == s.toList) = false := by rw [e2]; rfl
    have f9 : (s.toList == [115, 113, 114, 116]) = false := by rw [e2]; rfl
    have g9 : ([115, 113, 114, 116] == s.toList) = false := by rw [e2]; rfl
    have f10 : (s.toList == [116, 105, 100]) = false := by rw [e2]; rfl
    have g10 : ([116, 105, 100] == s.toList) = false := by rw [e2]; rfl
    clear e0 e1 e2
    go_enter Tryd.func8, Tryd.ntmps8
    go_wp2
    go_ret
    exact ⟨rfl, rfl⟩
  by_cases e3 : s.toList = [103, 114, 111, 117, 112]
  · rw [show ar s = 0 by unfold ar; rw [e3]; rfl]
    have f0 : (s.toList == [97, 98, 115]) = false := by rw [e3]; rfl
    have g0 : ([97, 98, 115] == s.toList) = false := by rw [e3]; rfl
    have f1 : (s.toList == [102, 108, 111, 97, 116]) = false := by rw [e3]; rfl
    have g1 : ([102, 108, 111, 97, 116] == s.toList) = false := by rw [e3]; rfl
    have f2 : (s.toList == [102, 109, 97]) = false := by rw [e3]; rfl
    have g2 : ([102, 109, 97] == s.toList) = false := by rw [e3]; rfl
    have f3 : (s.toList == [103, 114, 111, 117, 112]) = true := by rw [e3]; rfl
    have g3 : ([103, 114, 111, 117, 112] == s.toList) = true := by rw [e3]; rfl
    have f4 : (s.toList == [105, 110, 116]) = false := by rw [e3]; rfl
    have g4 : ([105, 110, 116] == s.toList) = false := by rw [e3]; rfl
    have f5 : (s.toList == [108, 111, 99, 97, 108]) = false := by rw [e3]; rfl
    have g5 : ([108, 111, 99, 97, 108] == s.toList) = false := by rw [e3]; rfl
    have f6 : (s.toList == [109, 97, 120]) = false := by rw [e3]; rfl
    have g6 : ([109, 97, 120] == s.toList) = false := by rw [e3]; rfl
    have f7 : (s.toList == [109, 105, 110]) = false := by rw [e3]; rfl
    have g7 : ([109, 105, 110] == s.toList) = false := by rw [e3]; rfl
    have f8 : (s.toList == [115, 105, 122, 101]) = false := by rw [e3]; rfl
    have g8 : ([115, 105, 122, 101] == s.toList) = false := by rw [e3]; rfl
    have f9 : (s.toList == [115, 113, 114, 116]) = false := by rw [e3]; rfl
    have g9 : ([115, 113, 114, 116] == s.toList) = false := by rw [e3]; rfl
    have f10 : (s.toList == [116, 105, 100]) = false := by rw [e3]; rfl
    have g10 : ([116, 105, 100] == s.toList) = false := by rw [e3]; rfl
    clear e0 e1 e2 e3
    go_enter Tryd.func8, Tryd.ntmps8
    go_wp2
    go_ret
    exact ⟨rfl, rfl⟩
  by_cases e4 : s.toList = [105, 110, 116]
  · rw [show ar s = 1 by unfold ar; rw [e4]; rfl]
    have f0 : (s.toList == [97, 98, 115]) = false := by rw [e4]; rfl
    have g0 : ([97, 98, 115] == s.toList) = false := by rw [e4]; rfl
    have f1 : (s.toList == [102, 108, 111, 97, 116]) = false := by rw [e4]; rfl
    have g1 : ([102, 108, 111, 97, 116] == s.toList) = false := by rw [e4]; rfl
    have f2 : (s.toList == [102, 109, 97]) = false := by rw [e4]; rfl
    have g2 : ([102, 109, 97] == s.toList) = false := by rw [e4]; rfl
    have f3 : (s.toList == [103, 114, 111, 117, 112]) = false := by rw [e4]; rfl
    have g3 : ([103, 114, 111, 117, 112] == s.toList) = false := by rw [e4]; rfl
    have f4 : (s.toList == [105, 110, 116]) = true := by rw [e4]; rfl
    have g4 : ([105, 110, 116] == s.toList) = true := by rw [e4]; rfl
    have f5 : (s.toList == [108, 111, 99, 97, 108]) = false := by rw [e4]; rfl
    have g5 : ([108, 111, 99, 97, 108] == s.toList) = false := by rw [e4]; rfl
    have f6 : (s.toList == [109, 97, 120]) = false := by rw [e4]; rfl
    have g6 : ([109, 97, 120] == s.toList) = false := by rw [e4]; rfl
    have f7 : (s.toList == [109, 105, 110]) = false := by rw [e4]; rfl
    have g7 : ([109, 105, 110] == s.toList) = false := by rw [e4]; rfl
    have f8 : (s.toList == [115, 105, 122, 101]) = false := by rw [e4]; rfl
    have g8 : ([115, 105, 122, 101] == s.toList) = false := by rw [e4]; rfl
    have f9 : (s.toList == [115, 113, 114, 116]) = false := by rw [e4]; rfl
    have g9 : ([115, 113, 114, 116] == s.toList) = false := by rw [e4]; rfl
    have f10 : (s.toList == [116, 105, 100]) = false := by rw [e4]; rfl
    have g10 : ([116, 105, 100] == s.toList) = false := by rw [e4]; rfl
    clear e0 e1 e2 e3 e4
    go_enter Tryd.func8, Tryd.ntmps8
    go_wp2
    go_ret
    exact ⟨rfl, rfl⟩
  by_cases e5 : s.toList = [108, 111, 99, 97, 108]
  · rw [show ar s = 0 by unfold ar; rw [e5]; rfl]
    have f0 : (s.toList == [97, 98, 115]) = false := by rw [e5]; rfl
    have g0 : ([97, 98, 115] == s.toList) = false := by rw [e5]; rfl
    have f1 : (s.toList == [102, 108, 111, 97, 116]) = false := by rw [e5]; rfl
    have g1 : ([102, 108, 111, 97, 116] == s.toList) = false := by rw [e5]; rfl
    have f2 : (s.toList == [102, 109, 97]) = false := by rw [e5]; rfl
    have g2 : ([102, 109, 97] == s.toList) = false := by rw [e5]; rfl
    have f3 : (s.toList == [103, 114, 111, 117, 112]) = false := by rw [e5]; rfl
    have g3 : ([103, 114, 111, 117, 112] == s.toList) = false := by rw [e5]; rfl
    have f4 : (s.toList == [105, 110, 116]) = false := by rw [e5]; rfl
    have g4 : ([105, 110, 116] == s.toList) = false := by rw [e5]; rfl
    have f5 : (s.toList == [108, 111, 99, 97, 108]) = true := by rw [e5]; rfl
    have g5 : ([108, 111, 99, 97, 108] == s.toList) = true := by rw [e5]; rfl
    have f6 : (s.toList == [109, 97, 120]) = false := by rw [e5]; rfl
    have g6 : ([109, 97, 120] == s.toList) = false := by rw [e5]; rfl
    have f7 : (s.toList == [109, 105, 110]) = false := by rw [e5]; rfl
    have g7 : ([109, 105, 110] == s.toList) = false := by rw [e5]; rfl
    have f8 : (s.toList == [115, 105, 122, 101]) = false := by rw [e5]; rfl
    have g8 : ([115, 105, 122, 101] == s.toList) = false := by rw [e5]; rfl
    have f9 : (s.toList == [115, 113, 114, 116]) = false := by rw [e5]; rfl
    have g9 : ([115, 113, 114, 116] == s.toList) = false := by rw [e5]; rfl
    have f10 : (s.toList == [116, 105, 100]) = false := by rw [e5]; rfl
    have g10 : ([116, 105, 100] == s.toList) = false := by rw [e5]; rfl
    clear e0 e1 e2 e3 e4 e5
    go_enter Tryd.func8, Tryd.ntmps8
    go_wp2
    go_ret
    exact ⟨rfl, rfl⟩
  by_cases e6 : s.toList = [109, 97, 120]
  · rw [show ar s = 2 by unfold ar; rw [e6]; rfl]
    have f0 : (s.toList == [97, 98, 115]) = false := by rw [e6]; rfl
    have g0 : ([97, 98, 115] == s.toList) = false := by rw [e6]; rfl
    have f1 : (s.toList == [102, 108, 111, 97, 116]) = false := by rw [e6]; rfl
    have g1 : ([102, 108, 111, 97, 116] == s.toList) = false := by rw [e6]; rfl
    have f2 : (s.toList == [102, 109, 97]) = false := by rw [e6]; rfl
    have g2 : ([102, 109, 97] == s.toList) = false := by rw [e6]; rfl
    have f3 : (s.toList == [103, 114, 111, 117, 112]) = false := by rw [e6]; rfl
    have g3 : ([103, 114, 111, 117, 112] == s.toList) = false := by rw [e6]; rfl
    have f4 : (s.toList == [105, 110, 116]) = false := by rw [e6]; rfl
    have g4 : ([105, 110, 116] == s.toList) = false := by rw [e6]; rfl
    have f5 : (s.toList == [108, 111, 99, 97, 108]) = false := by rw [e6]; rfl
    have g5 : ([108, 111, 99, 97, 108] == s.toList) = false := by rw [e6]; rfl
    have f6 : (s.toList == [109, 97, 120]) = true := by rw [e6]; rfl
    have g6 : ([109, 97, 120] == s.toList) = true := by rw [e6]; rfl
    have f7 : (s.toList == [109, 105, 110]) = false := by rw [e6]; rfl
    have g7 : ([109, 105, 110] == s.toList) = false := by rw [e6]; rfl
    have f8 : (s.toList == [115, 105, 122, 101]) = false := by rw [e6]; rfl
    have g8 : ([115, 105, 122, 101] == s.toList) = false := by rw [e6]; rfl
    have f9 : (s.toList == [115, 113, 114, 116]) = false := by rw [e6]; rfl
    have g9 : ([115, 113, 114, 116] == s.toList) = false := by rw [e6]; rfl
    have f10 : (s.toList == [116, 105, 100]) = false := by rw [e6]; rfl
    have g10 : ([116, 105, 100] == s.toList) = false := by rw [e6]; rfl
    clear e0 e1 e2 e3 e4 e5 e6
    go_enter Tryd.func8, Tryd.ntmps8
    go_wp2
    go_ret
    exact ⟨rfl, rfl⟩
  by_cases e7 : s.toList = [109, 105, 110]
  · rw [show ar s = 2 by unfold ar; rw [e7]; rfl]
    have f0 : (s.toList == [97, 98, 115]) = false := by rw [e7]; rfl
    have g0 : ([97, 98, 115] == s.toList) = false := by rw [e7]; rfl
    have f1 : (s.toList == [102, 108, 111, 97, 116]) = false := by rw [e7]; rfl
    have g1 : ([102, 108, 111, 97, 116] == s.toList) = false := by rw [e7]; rfl
    have f2 : (s.toList == [102, 109, 97]) = false := by rw [e7]; rfl
    have g2 : ([102, 109, 97] == s.toList) = false := by rw [e7]; rfl
    have f3 : (s.toList == [103, 114, 111, 117, 112]) = false := by rw [e7]; rfl
    have g3 : ([103, 114, 111, 117, 112] == s.toList) = false := by rw [e7]; rfl
    have f4 : (s.toList == [105, 110, 116]) = false := by rw [e7]; rfl
    have g4 : ([105, 110, 116] == s.toList) = false := by rw [e7]; rfl
    have f5 : (s.toList == [108, 111, 99, 97, 108]) = false := by rw [e7]; rfl
    have g5 : ([108, 111, 99, 97, 108] == s.toList) = false := by rw [e7]; rfl
    have f6 : (s.toList == [109, 97, 120]) = false := by rw [e7]; rfl
    have g6 : ([109, 97, 120] == s.toList) = false := by rw [e7]; rfl
    have f7 : (s.toList == [109, 105, 110]) = true := by rw [e7]; rfl
    have g7 : ([109, 105, 110] == s.toList) = true := by rw [e7]; rfl
    have f8 : (s.toList == [115, 105, 122, 101]) = false := by rw [e7]; rfl
    have g8 : ([115, 105, 122, 101] == s.toList) = false := by rw [e7]; rfl
    have f9 : (s.toList == [115, 113, 114, 116]) = false := by rw [e7]; rfl
    have g9 : ([115, 113, 114, 116] == s.toList) = false := by rw [e7]; rfl
    have f10 : (s.toList == [116, 105, 100]) = false := by rw [e7]; rfl
    have g10 : ([116, 105, 100] == s.toList) = false := by rw [e7]; rfl
    clear e0 e1 e2 e3 e4 e5 e6 e7
    go_enter Tryd.func8, Tryd.ntmps8
    go_wp2
    go_ret
    exact ⟨rfl, rfl⟩
  by_cases e8 : s.toList = [115, 105, 122, 101]
  · rw [show ar s = 0 by unfold ar; rw [e8]; rfl]
    have f0 : (s.toList == [97, 98, 115]) = false := by rw [e8]; rfl
    have g0 : ([97, 98, 115] == s.toList) = false := by rw [e8]; rfl
    have f1 : (s.toList == [102, 108, 111, 97, 116]) = false := by rw [e8]; rfl
    have g1 : ([102, 108, 111, 97, 116] == s.toList) = false := by rw [e8]; rfl
    have f2 : (s.toList == [102, 109, 97]) = false := by rw [e8]; rfl
    have g2 : ([102, 109, 97] == s.toList) = false := by rw [e8]; rfl
    have f3 : (s.toList == [103, 114, 111, 117, 112]) = false := by rw [e8]; rfl
    have g3 : ([103, 114, 111, 117, 112] == s.toList) = false := by rw [e8]; rfl
    have f4 : (s.toList == [105, 110, 116]) = false := by rw [e8]; rfl
    have g4 : ([105, 110, 116] == s.toList) = false := by rw [e8]; rfl
    have f5 : (s.toList == [108, 111, 99, 97, 108]) = false := by rw [e8]; rfl
    have g5 : ([108, 111, 99, 97, 108] == s.toList) = false := by rw [e8]; rfl
    have f6 : (s.toList == [109, 97, 120]) = false := by rw [e8]; rfl
    have g6 : ([109, 97, 120] == s.toList) = false := by rw [e8]; rfl
    have f7 : (s.toList == [109, 105, 110]) = false := by rw [e8]; rfl
    have g7 : ([109, 105, 110] == s.toList) = false := by rw [e8]; rfl
    have f8 : (s.toList == [115, 105, 122, 101]) = true := by rw [e8]; rfl
    have g8 : ([115, 105, 122, 101] == s.toList) = true := by rw [e8]; rfl
    have f9 : (s.toList == [115, 113, 114, 116]) = false := by rw [e8]; rfl
    have g9 : ([115, 113, 114, 116] == s.toList) = false := by rw [e8]; rfl
    have f10 : (s.toList == [116, 105, 100]) = false := by rw [e8]; rfl
    have g10 : ([116, 105, 100] == s.toList) = false := by rw [e8]; rfl
    clear e0 e1 e2 e3 e4 e5 e6 e7 e8
    go_enter Tryd.func8, Tryd.ntmps8
    go_wp2
    go_ret
    exact ⟨rfl, rfl⟩
  by_cases e9 : s.toList = [115, 113, 114, 116]
  · rw [show ar s = 1 by unfold ar; rw [e9]; rfl]
    have f0 : (s.toList == [97, 98, 115]) = false := by rw [e9]; rfl
    have g0 : ([97, 98, 115] == s.toList) = false := by rw [e9]; rfl
    have f1 : (s.toList == [102, 108, 111, 97, 116]) = false := by rw [e9]; rfl
    have g1 : ([102, 108, 111, 97, 116] == s.toList) = false := by rw [e9]; rfl
    have f2 : (s.toList == [102, 109, 97]) = false := by rw [e9]; rfl
    have g2 : ([102, 109, 97] == s.toList) = false := by rw [e9]; rfl
    have f3 : (s.toList == [103, 114, 111, 117, 112]) = false := by rw [e9]; rfl
    have g3 : ([103, 114, 111, 117, 112] == s.toList) = false := by rw [e9]; rfl
    have f4 : (s.toList == [105, 110, 116]) = false := by rw [e9]; rfl
    have g4 : ([105, 110, 116] == s.toList) = false := by rw [e9]; rfl
    have f5 : (s.toList == [108, 111, 99, 97, 108]) = false := by rw [e9]; rfl
    have g5 : ([108, 111, 99, 97, 108] == s.toList) = false := by rw [e9]; rfl
    have f6 : (s.toList == [109, 97, 120]) = false := by rw [e9]; rfl
    have g6 : ([109, 97, 120] == s.toList) = false := by rw [e9]; rfl
    have f7 : (s.toList == [109, 105, 110]) = false := by rw [e9]; rfl
    have g7 : ([109, 105, 110] == s.toList) = false := by rw [e9]; rfl
    have f8 : (s.toList == [115, 105, 122, 101]) = false := by rw [e9]; rfl
    have g8 : ([115, 105, 122, 101] == s.toList) = false := by rw [e9]; rfl
    have f9 : (s.toList == [115, 113, 114, 116]) = true := by rw [e9]; rfl
    have g9 : ([115, 113, 114, 116] == s.toList) = true := by rw [e9]; rfl
    have f10 : (s.toList == [116, 105, 100]) = false := by rw [e9]; rfl
    have g10 : ([116, 105, 100] == s.toList) = false := by rw [e9]; rfl
    clear e0 e1 e2 e3 e4 e5 e6 e7 e8 e9
    go_enter Tryd.func8, Tryd.ntmps8
    go_wp2
    go_ret
    exact ⟨rfl, rfl⟩
  by_cases e10 : s.toList = [116, 105, 100]
  · rw [show ar s = 0 by unfold ar; rw [e10]; rfl]
    have f0 : (s.toList == [97, 98, 115]) = false := by rw [e10]; rfl
    have g0 : ([97, 98, 115] == s.toList) = false := by rw [e10]; rfl
    have f1 : (s.toList == [102, 108, 111, 97, 116]) = false := by rw [e10]; rfl
    have g1 : ([102, 108, 111, 97, 116] == s.toList) = false := by rw [e10]; rfl
    have f2 : (s.toList == [102, 109, 97]) = false := by rw [e10]; rfl
    have g2 : ([102, 109, 97] == s.toList) = false := by rw [e10]; rfl
    have f3 : (s.toList == [103, 114, 111, 117, 112]) = false := by rw [e10]; rfl
    have g3 : ([103, 114, 111, 117, 112] == s.toList) = false := by rw [e10]; rfl
    have f4 : (s.toList == [105, 110, 116]) = false := by rw [e10]; rfl
    have g4 : ([105, 110, 116] == s.toList) = false := by rw [e10]; rfl
    have f5 : (s.toList == [108, 111, 99, 97, 108]) = false := by rw [e10]; rfl
    have g5 : ([108, 111, 99, 97, 108] == s.toList) = false := by rw [e10]; rfl
    have f6 : (s.toList == [109, 97, 120]) = false := by rw [e10]; rfl
    have g6 : ([109, 97, 120] == s.toList) = false := by rw [e10]; rfl
    have f7 : (s.toList == [109, 105, 110]) = false := by rw [e10]; rfl
    have g7 : ([109, 105, 110] == s.toList) = false := by rw [e10]; rfl
    have f8 : (s.toList == [115, 105, 122, 101]) = false := by rw [e10]; rfl
    have g8 : ([115, 105, 122, 101] == s.toList) = false := by rw [e10]; rfl
    have f9 : (s.toList == [115, 113, 114, 116]) = false := by rw [e10]; rfl
    have g9 : ([115, 113, 114, 116] == s.toList) = false := by rw [e10]; rfl
    have f10 : (s.toList == [116, 105, 100]) = true := by rw [e10]; rfl
    have g10 : ([116, 105, 100] == s.toList) = true := by rw [e10]; rfl
    clear e0 e1 e2 e3 e4 e5 e6 e7 e8 e9 e10
    go_enter Tryd.func8, Tryd.ntmps8
    go_wp2
    go_ret
    exact ⟨rfl, rfl⟩
  rw [show ar s = -1 by unfold ar; simp only [e0, e1, e2, e3, e4, e5, e6, e7, e8, e9, e10, if_false]]
  have f0 : (s.toList == [97, 98, 115]) = false := beq_eq_false_iff_ne.mpr e0
  have g0 : ([97, 98, 115] == s.toList) = false := beq_eq_false_iff_ne.mpr fun h => e0 h.symm
  have f1 : (s.toList == [102, 108, 111, 97, 116]) = false := beq_eq_false_iff_ne.mpr e1
  have g1 : ([102, 108, 111, 97, 116] == s.toList) = false := beq_eq_false_iff_ne.mpr fun h => e1 h.symm
  have f2 : (s.toList == [102, 109, 97]) = false := beq_eq_false_iff_ne.mpr e2
  have g2 : ([102, 109, 97] == s.toList) = false := beq_eq_false_iff_ne.mpr fun h => e2 h.symm
  have f3 : (s.toList == [103, 114, 111, 117, 112]) = false := beq_eq_false_iff_ne.mpr e3
  have g3 : ([103, 114, 111, 117, 112] == s.toList) = false := beq_eq_false_iff_ne.mpr fun h => e3 h.symm
  have f4 : (s.toList == [105, 110, 116]) = false := beq_eq_false_iff_ne.mpr e4
  have g4 : ([105, 110, 116] == s.toList) = false := beq_eq_false_iff_ne.mpr fun h => e4 h.symm
  have f5 : (s.toList == [108, 111, 99, 97, 108]) = false := beq_eq_false_iff_ne.mpr e5
  have g5 : ([108, 111, 99, 97, 108] == s.toList) = false := beq_eq_false_iff_ne.mpr fun h => e5 h.symm
  have f6 : (s.toList == [109, 97, 120]) = false := beq_eq_false_iff_ne.mpr e6
  have g6 : ([109, 97, 120] == s.toList) = false := beq_eq_false_iff_ne.mpr fun h => e6 h.symm
  have f7 : (s.toList == [109, 105, 110]) = false := beq_eq_false_iff_ne.mpr e7
  have g7 : ([109, 105, 110] == s.toList) = false := beq_eq_false_iff_ne.mpr fun h => e7 h.symm
  have f8 : (s.toList == [115, 105, 122, 101]) = false := beq_eq_false_iff_ne.mpr e8
  have g8 : ([115, 105, 122, 101] == s.toList) = false := beq_eq_false_iff_ne.mpr fun h => e8 h.symm
  have f9 : (s.toList == [115, 113, 114, 116]) = false := beq_eq_false_iff_ne.mpr e9
  have g9 : ([115, 113, 114, 116] == s.toList) = false := beq_eq_false_iff_ne.mpr fun h => e9 h.symm
  have f10 : (s.toList == [116, 105, 100]) = false := beq_eq_false_iff_ne.mpr e10
  have g10 : ([116, 105, 100] == s.toList) = false := beq_eq_false_iff_ne.mpr fun h => e10 h.symm
  clear e0 e1 e2 e3 e4 e5 e6 e7 e8 e9 e10
  go_enter Tryd.func8, Tryd.ntmps8
  go_wp2
  go_ret
  exact ⟨rfl, rfl⟩
/-- The name and the number at a place of the table. -/
def nm : Nat → List UInt8
  | 0 => [97, 98, 115]
  | 1 => [102, 108, 111, 97, 116]
  | 2 => [102, 109, 97]
  | 3 => [103, 114, 111, 117, 112]
  | 4 => [105, 110, 116]
  | 5 => [108, 111, 99, 97, 108]
  | 6 => [109, 97, 120]
  | 7 => [109, 105, 110]
  | 8 => [115, 105, 122, 101]
  | 9 => [115, 113, 114, 116]
  | 10 => [116, 105, 100]
  | _ => []
def nr : Nat → Int
  | 0 => 1
  | 1 => 1
  | 2 => 3
  | 3 => 0
  | 4 => 1
  | 5 => 0
  | 6 => 2
  | 7 => 2
  | 8 => 0
  | 9 => 1
  | 10 => 0
  | _ => 0
theorem ar_at (s : ByteArray) (k : Nat) (hk : k < 11) (h : s.toList = nm k) : ar s = nr k := by
  unfold ar
  rw [h]
  rcases (by omega : k = 0 ∨ k = 1 ∨ k = 2 ∨ k = 3 ∨ k = 4 ∨ k = 5 ∨ k = 6 ∨ k = 7 ∨ k = 8 ∨ k = 9 ∨ k = 10) with rfl | rfl | rfl | rfl | rfl | rfl | rfl | rfl | rfl | rfl | rfl <;> rfl
theorem ar_none (s : ByteArray) (h : ∀ j, j < 11 → s.toList ≠ nm j) : ar s = -1 := by
  unfold ar
  rw [if_neg (show ¬ s.toList = [97, 98, 115] from h 0 (by decide))]
  rw [if_neg (show ¬ s.toList = [102, 108, 111, 97, 116] from h 1 (by decide))]
  rw [if_neg (show ¬ s.toList = [102, 109, 97] from h 2 (by decide))]
  rw [if_neg (show ¬ s.toList = [103, 114, 111, 117, 112] from h 3 (by decide))]
  rw [if_neg (show ¬ s.toList = [105, 110, 116] from h 4 (by decide))]
  rw [if_neg (show ¬ s.toList = [108, 111, 99, 97, 108] from h 5 (by decide))]
  rw [if_neg (show ¬ s.toList = [109, 97, 120] from h 6 (by decide))]
  rw [if_neg (show ¬ s.toList = [109, 105, 110] from h 7 (by decide))]
  rw [if_neg (show ¬ s.toList = [115, 105, 122, 101] from h 8 (by decide))]
  rw [if_neg (show ¬ s.toList = [115, 113, 114, 116] from h 9 (by decide))]
  rw [if_neg (show ¬ s.toList = [116, 105, 100] from h 10 (by decide))]
theorem range_of {w : World} (G : Forms w) : w.rangeAt 0 0 cellsT.toList := by
  intro j v hv
  rw [Nat.zero_add]
  have hj : j < 22 := by
    rcases Nat.lt_or_ge j 22 with h | h
    · exact h
    · rw [List.getElem?_eq_none (by simpa [cellsT] using h)] at hv; cases hv
  rcases (by omega : j = 0 ∨ j = 1 ∨ j = 2 ∨ j = 3 ∨ j = 4 ∨ j = 5 ∨ j = 6 ∨ j = 7 ∨ j = 8 ∨ j = 9 ∨ j = 10 ∨ j = 11 ∨ j = 12 ∨ j = 13 ∨ j = 14 ∨ j = 15 ∨ j = 16 ∨ j = 17 ∨ j = 18 ∨ j = 19 ∨ j = 20 ∨ j = 21) with rfl | rfl | rfl | rfl | rfl | rfl | rfl | rfl | rfl | rfl | rfl | rfl | rfl | rfl | rfl | rfl | rfl | rfl | rfl | rfl | rfl | rfl
  · obtain rfl := Option.some.inj hv; exact G.c0
  · obtain rfl := Option.some.inj hv; exact G.c1
  · obtain rfl := Option.some.inj hv; exact G.c2
  · obtain rfl := Option.some.inj hv; exact G.c3
  · obtain rfl := Option.some.inj hv; exact G.c4
  · obtain rfl := Option.some.inj hv; exact G.c5
  · obtain rfl := Option.some.inj hv; exact G.c6
  · obtain rfl := Option.some.inj hv; exact G.c7
  · obtain rfl := Option.some.inj hv; exact G.c8
  · obtain rfl := Option.some.inj hv; exact G.c9
  · obtain rfl := Option.some.inj hv; exact G.c10
  · obtain rfl := Option.some.inj hv; exact G.c11
  · obtain rfl := Option.some.inj hv; exact G.c12
  · obtain rfl := Option.some.inj hv; exact G.c13
  · obtain rfl := Option.some.inj hv; exact G.c14
  · obtain rfl := Option.some.inj hv; exact G.c15
  · obtain rfl := Option.some.inj hv; exact G.c16
  · obtain rfl := Option.some.inj hv; exact G.c17
  · obtain rfl := Option.some.inj hv; exact G.c18
  · obtain rfl := Option.some.inj hv; exact G.c19
  · obtain rfl := Option.some.inj hv; exact G.c20
  · obtain rfl := Option.some.inj hv; exact G.c21
set_option maxRecDepth 100000 in
set_option maxHeartbeats 4000000 in
theorem arity11 (s : ByteArray) (w : World) (G : Forms w) : Calls Tryd.prog 10 #[.string s] w fun e w' => e = .returned (.int .i64 (ar s)) ∧ Below w.heap.size w w' := by
  obtain ⟨R, hR⟩ : ∃ R, ar s = R := ⟨_, rfl⟩
  rw [hR]
  have HR : Hid (ar s = R) := hR
  clear hR
  have RG : Hid (w.rangeAt 0 0 cellsT.toList) := range_of G
  have i0 := ix0
  have i1 := ix1
  have i2 := ix2
  have i3 := ix3
  have i4 := ix4
  have i5 := ix5
  have i6 := ix6
  have i7 := ix7
  have i8 := ix8
  have i9 := ix9
  have i10 := ix10
  go_enter Tryd.func10, Tryd.ntmps10
  go_wp2_with (refine wpList_load_mid rfl 39 _ rfl 0 0 rfl cellsT.toList _ (Hid.out RG) Tryd.underlying39 rfl (by kernel_rfl) ?_)
  go_loopw [6] (fun i wr => ∃ k : Nat, k ≤ 11 ∧ i = .int .i64 k ∧ Hid (∀ j, j < k → s.toList ≠ nm j) ∧ Below w.heap.size w wr) (fun i _ => 11 - (intOf i).toNat)
  case atStart => exact ⟨0, by omega, rfl, fun j hj => by omega, Below.refl _ _⟩
  case round =>
    obtain ⟨k, hk, rfl, HN, B⟩ := hrel
    by_cases hkn : k = 11
    · subst hkn
      obtain rfl : R = -1 := HR.out.symm.trans (ar_none s HN.out)
      rw [show ((11 : Nat) : Int) = 11 from rfl]
      go_wp2
      go_ret
      exact ⟨rfl, B⟩
    by_cases e : s.toList = nm k
    · have hr : R = nr k := HR.out.symm.trans (ar_at s k (by omega) e)
      rcases (by omega : k = 0 ∨ k = 1 ∨ k = 2 ∨ k = 3 ∨ k = 4 ∨ k = 5 ∨ k = 6 ∨ k = 7 ∨ k = 8 ∨ k = 9 ∨ k = 10) with rfl | rfl | rfl | rfl | rfl | rfl | rfl | rfl | rfl | rfl | rfl
      · have f : (s.toList == [97, 98, 115]) = true := by rw [e]; rfl
        have g : ([97, 98, 115] == s.toList) = true := by rw [e]; rfl
        rw [show ((0 : Nat) : Int) = 0 from rfl]
        obtain rfl : R = 1 := hr
        clear HN e
        go_wp2
        go_ret
        exact ⟨rfl, B.alloc B.size _⟩
      · have f : (s.toList == [102, 108, 111, 97, 116]) = true := by rw [e]; rfl
        have g : ([102, 108, 111, 97, 116] == s.toList) = true := by rw [e]; rfl
        rw [show ((1 : Nat) : Int) = 1 from rfl]
        obtain rfl : R = 1 := hr
        clear HN e
        go_wp2
        go_ret
        exact ⟨rfl, B.alloc B.size _⟩
      · have f : (s.toList == [102, 109, 97]) = true := by rw [e]; rfl
        have g : ([102, 109, 97] == s.toList) = true := by rw [e]; rfl
        rw [show ((2 : Nat) : Int) = 2 from rfl]
        obtain rfl : R = 3 := hr
        clear HN e
        go_wp2
        go_ret
        exact ⟨rfl, B.alloc B.size _⟩
      · have f : (s.toList == [103, 114, 111, 117, 112]) = true := by rw [e]; rfl
        have g : ([103, 114, 111, 117, 112] == s.toList) = true := by rw [e]; rfl
        rw [show ((3 : Nat) : Int) = 3 from rfl]
        obtain rfl : R = 0 := hr
        clear HN e
        go_wp2
        go_ret
        exact ⟨rfl, B.alloc B.size _⟩
      · have f : (s.toList == [105, 110, 116]) = true := by rw [e]; rfl
        have g : ([105, 110, 116] == s.toList) = true := by rw [e]; rfl
        rw [show ((4 : Nat) : Int) = 4 from rfl]
        obtain rfl : R = 1 := hr
        clear HN e
        go_wp2
        go_ret
        exact ⟨rfl, B.alloc B.size _⟩
      · have f : (s.toList == [108, 111, 99, 97, 108]) = true := by rw [e]; rfl
        have g : ([108, 111, 99, 97, 108] == s.toList) = true := by rw [e]; rfl
        rw [show ((5 : Nat) : Int) = 5 from rfl]
        obtain rfl : R = 0 := hr
        clear HN e
        go_wp2
        go_ret
        exact ⟨rfl, B.alloc B.size _⟩
      · have f : (s.toList == [109, 97, 120]) = true := by rw [e]; rfl
        have g : ([109, 97, 120] == s.toList) = true := by rw [e]; rfl
        rw [show ((6 : Nat) : Int) = 6 from rfl]
        obtain rfl : R = 2 := hr
        clear HN e
        go_wp2
        go_ret
        exact ⟨rfl, B.alloc B.size _⟩
      · have f : (s.toList == [109, 105, 110]) = true := by rw [e]; rfl
        have g : ([109, 105, 110] == s.toList) = true := by rw [e]; rfl
        rw [show ((7 : Nat) : Int) = 7 from rfl]
        obtain rfl : R = 2 := hr
        clear HN e
        go_wp2
        go_ret
        exact ⟨rfl, B.alloc B.size _⟩
      · have f : (s.toList == [115, 105, 122, 101]) = true := by rw [e]; rfl
        have g : ([115, 105, 122, 101] == s.toList) = true := by rw [e]; rfl
        rw [show ((8 : Nat) : Int) = 8 from rfl]
        obtain rfl : R = 0 := hr
        clear HN e
        go_wp2
        go_ret
        exact ⟨rfl, B.alloc B.size _⟩
      · have f : (s.toList == [115, 113, 114, 116]) = true := by rw [e]; rfl
        have g : ([115, 113, 114, 116] == s.toList) = true := by rw [e]; rfl
        rw [show ((9 : Nat) : Int) = 9 from rfl]
        obtain rfl : R = 1 := hr
        clear HN e
        go_wp2
        go_ret
        exact ⟨rfl, B.alloc B.size _⟩
      · have f : (s.toList == [116, 105, 100]) = true := by rw [e]; rfl
        have g : ([116, 105, 100] == s.toList) = true := by rw [e]; rfl
        rw [show ((10 : Nat) : Int) = 10 from rfl]
        obtain rfl : R = 0 := hr
        clear HN e
        go_wp2
        go_ret
        exact ⟨rfl, B.alloc B.size _⟩
    · have HM : Hid (∀ j, j < k + 1 → s.toList ≠ nm j) := fun j hj => by
        by_cases h : j = k
        · rw [h]; exact e
        · exact HN.out j (by omega)
      clear HN
      rcases (by omega : k = 0 ∨ k = 1 ∨ k = 2 ∨ k = 3 ∨ k = 4 ∨ k = 5 ∨ k = 6 ∨ k = 7 ∨ k = 8 ∨ k = 9 ∨ k = 10) with rfl | rfl | rfl | rfl | rfl | rfl | rfl | rfl | rfl | rfl | rfl
      · have f : (s.toList == [97, 98, 115]) = false := beq_eq_false_iff_ne.mpr e
        have g : ([97, 98, 115] == s.toList) = false := beq_eq_false_iff_ne.mpr fun h => e h.symm
        rw [show ((0 : Nat) : Int) = 0 from rfl]
        clear e
        go_wp2
        go_roundw
        case rel => exact ⟨1, by decide, rfl, HM, B.alloc B.size _⟩
        case measure => simp [intOf]
      · have f : (s.toList == [102, 108, 111, 97, 116]) = false := beq_eq_false_iff_ne.mpr e
        have g : ([102, 108, 111, 97, 116] == s.toList) = false := beq_eq_false_iff_ne.mpr fun h => e h.symm
        rw [show ((1 : Nat) : Int) = 1 from rfl]
        clear e
        go_wp2
        go_roundw
        case rel => exact ⟨2, by decide, rfl, HM, B.alloc B.size _⟩
        case measure => simp [intOf]
      · have f : (s.toList == [102, 109, 97]) = false := beq_eq_false_iff_ne.mpr e
        have g : ([102, 109, 97] == s.toList) = false := beq_eq_false_iff_ne.mpr fun h => e h.symm
        rw [show ((2 : Nat) : Int) = 2 from rfl]
        clear e
        go_wp2
        go_roundw
        case rel => exact ⟨3, by decide, rfl, HM, B.alloc B.size _⟩
        case measure => simp [intOf]
      · have f : (s.toList == [103, 114, 111, 117, 112]) = false := beq_eq_false_iff_ne.mpr e
        have g : ([103, 114, 111, 117, 112] == s.toList) = false := beq_eq_false_iff_ne.mpr fun h => e h.symm
        rw [show ((3 : Nat) : Int) = 3 from rfl]
        clear e
        go_wp2
        go_roundw
        case rel => exact ⟨4, by decide, rfl, HM, B.alloc B.size _⟩
        case measure => simp [intOf]
      · have f : (s.toList == [105, 110, 116]) = false := beq_eq_false_iff_ne.mpr e
        have g : ([105, 110, 116] == s.toList) = false := beq_eq_false_iff_ne.mpr fun h => e h.symm
        rw [show ((4 : Nat) : Int) = 4 from rfl]
        clear e
        go_wp2
        go_roundw
        case rel => exact ⟨5, by decide, rfl, HM, B.alloc B.size _⟩
        case measure => simp [intOf]
      · have f : (s.toList == [108, 111, 99, 97, 108]) = false := beq_eq_false_iff_ne.mpr e
        have g : ([108, 111, 99, 97, 108] == s.toList) = false := beq_eq_false_iff_ne.mpr fun h => e h.symm
        rw [show ((5 : Nat) : Int) = 5 from rfl]
        clear e
        go_wp2
        go_roundw
        case rel => exact ⟨6, by decide, rfl, HM, B.alloc B.size _⟩
        case measure => simp [intOf]
      · have f : (s.toList == [109, 97, 120]) = false := beq_eq_false_iff_ne.mpr e
        have g : ([109, 97, 120] == s.toList) = false := beq_eq_false_iff_ne.mpr fun h => e h.symm
        rw [show ((6 : Nat) : Int) = 6 from rfl]
        clear e
        go_wp2
        go_roundw
        case rel => exact ⟨7, by decide, rfl, HM, B.alloc B.size _⟩
        case measure => simp [intOf]
      · have f : (s.toList == [109, 105, 110]) = false := beq_eq_false_iff_ne.mpr e
        have g : ([109, 105, 110] == s.toList) = false := beq_eq_false_iff_ne.mpr fun h => e h.symm
        rw [show ((7 : Nat) : Int) = 7 from rfl]
        clear e
        go_wp2
        go_roundw
        case rel => exact ⟨8, by decide, rfl, HM, B.alloc B.size _⟩
        case measure => simp [intOf]
      · have f : (s.toList == [115, 105, 122, 101]) = false := beq_eq_false_iff_ne.mpr e
        have g : ([115, 105, 122, 101] == s.toList) = false := beq_eq_false_iff_ne.mpr fun h => e h.symm
        rw [show ((8 : Nat) : Int) = 8 from rfl]
        clear e
        go_wp2
        go_roundw
        case rel => exact ⟨9, by decide, rfl, HM, B.alloc B.size _⟩
        case measure => simp [intOf]
      · have f : (s.toList == [115, 113, 114, 116]) = false := beq_eq_false_iff_ne.mpr e
        have g : ([115, 113, 114, 116] == s.toList) = false := beq_eq_false_iff_ne.mpr fun h => e h.symm
        rw [show ((9 : Nat) : Int) = 9 from rfl]
        clear e
        go_wp2
        go_roundw
        case rel => exact ⟨10, by decide, rfl, HM, B.alloc B.size _⟩
        case measure => simp [intOf]
      · have f : (s.toList == [116, 105, 100]) = false := beq_eq_false_iff_ne.mpr e
        have g : ([116, 105, 100] == s.toList) = false := beq_eq_false_iff_ne.mpr fun h => e h.symm
        rw [show ((10 : Nat) : Int) = 10 from rfl]
        clear e
        go_wp2
        go_roundw
        case rel => exact ⟨11, by decide, rfl, HM, B.alloc B.size _⟩
        case measure => simp [intOf]
end Go.Proofs.YtoloenkcfpfgcaaDoor.Ca
namespace Go.Proofs.YtoloenkcfpfgcaaDoor.Tk
open Go.ChangeShapes Go.WideShapes Go.ChangeAt Go.RowKit

/-- n cells of block o, from its head on: one value each; each may be written. -/
structure Own (w : World) (o n : Nat) (f : Nat → Value) : Prop where
  cell : ∀ i, i < n → w.cell? ⟨o, i, none⟩ = some (f i)
  free : ∀ i, w.frozen? ⟨o, i, none⟩ = false
  hi : o < w.heap.size
theorem Own.set {w : World} {o n : Nat} {f g : Nat → Value} (h : Own w o n f) (j : Nat) (v : Value) (hj : j < n) (hg : ∀ i, i < n → g i = if i = j then v else f i) : Own (w.setCell ⟨o, j, none⟩ v) o n g := by
  refine ⟨fun i hi => ?_, fun i => ?_, by simpa using h.hi⟩
  · rw [hg i hi]
    by_cases e : i = j
    · subst e
      rw [if_pos rfl]
      exact World.cell?_setCell_same' w _ _ (by rw [h.cell i hj]; rfl)
    · rw [if_neg e]
      have hne : (⟨o, j, none⟩ : Addr) ≠ ⟨o, i, none⟩ := by
        intro k; injection k with _ k2; exact e k2.symm
      rw [World.cell?_setCell_other (h := hne)]
      exact h.cell i hi
  · simp [h.free i]
theorem Own.mono {w : World} {o n m : Nat} {f g : Nat → Value} (h : Own w o n f) (hm : m ≤ n) (hg : ∀ i, i < m → g i = f i) : Own w o m g :=
  ⟨fun i hi => by rw [hg i hi]; exact h.cell i (by omega), h.free, h.hi⟩
/-- All blocks but one are as they were. -/
structure Only (o : Nat) (w w' : World) : Prop where
  os : w'.os = w.os
  tape : w'.tape = w.tape
  output : w'.output = w.output
  size : w.heap.size ≤ w'.heap.size
  block : ∀ k, k < w.heap.size → k ≠ o → w'.heap[k]? = w.heap[k]?
theorem Only.refl (o : Nat) (w : World) : Only o w w := ⟨rfl, rfl, rfl, Nat.le_refl _, fun _ _ _ => rfl⟩
theorem Only.trans {o : Nat} {a b c : World} (h : Only o a b) (k : Only o b c) : Only o a c :=
  ⟨k.os.trans h.os, k.tape.trans h.tape, k.output.trans h.output, Nat.le_trans h.size k.size, fun i hi ho => (k.block i (by have := h.size; omega) ho).trans (h.block i hi ho)⟩
theorem Only.setCell {o : Nat} {a w : World} (h : Only o a w) (j : Nat) (v : Value) : Only o a (w.setCell ⟨o, j, none⟩ v) :=
  h.trans ⟨rfl, rfl, rfl, by simp [World.setCell], fun k _ hk => Below.heap_setCell _ _ _ _ hk⟩
theorem Only.drewN {o : Nat} {a w : World} (h : Only o a w) (q : Nat) : Only o a (w.drewN q) := ⟨h.os, h.tape, h.output, h.size, h.block⟩
theorem Only.below {o B : Nat} {a w : World} (h : Only o a w) (hB : B ≤ o) (hs : B ≤ a.heap.size) : Below B a w := ⟨h.os, h.tape, h.output, h.size, fun k hk => h.block k (by omega) (by omega)⟩
theorem Only.ofBelow {o : Nat} {a w : World} (h : Below a.heap.size a w) : Only o a w := ⟨h.os, h.tape, h.output, h.size, fun k hk _ => h.block k hk⟩
theorem below_drewN {B : Nat} {a w : World} (h : Below B a w) (q : Nat) : Below B a (w.drewN q) := ⟨h.os, h.tape, h.output, h.size, h.block⟩
theorem drew2 (w : World) (a b : Nat) : (w.drewN a).drewN b = w.drewN (a + b) := by simp [World.drewN, Nat.add_assoc]
theorem Own.drewN {w : World} {o n : Nat} {f : Nat → Value} (h : Own w o n f) (q : Nat) : Own (w.drewN q) o n f := ⟨fun i hi => (h.cell i hi : w.cell? _ = _), fun i => h.free i, h.hi⟩
theorem Own.next {w w' : World} {o n : Nat} {f : Nat → Value} (h : Own w o n f) (hb : Below w.heap.size w w') : Own w' o n f := by
  have z := hb.size
  have zh := h.hi
  exact ⟨fun i hi => (hb.cell (p := ⟨o, i, none⟩) h.hi).trans (h.cell i hi), fun i => (hb.frozen (p := ⟨o, i, none⟩) h.hi).trans (h.free i), by omega⟩
theorem Own.but {w w' : World} {o p n : Nat} {f : Nat → Value} (h : Own w o n f) (hb : Only p w w') (hne : o ≠ p) : Own w' o n f := by
  have z := hb.size
  have zh := h.hi
  exact ⟨fun i hi => (World.cell?_of_block (w := w) (a := ⟨o, i, none⟩) (hb.block o zh hne)).trans (h.cell i hi), fun i => (World.frozen?_of_block (w := w) (a := ⟨o, i, none⟩) (hb.block o zh hne)).trans (h.free i), by omega⟩
theorem own_made {w : World} {B n t : Nat} {z : Value} {w' : World} (h : w'.ownsRow B t 1 (.slice (some ⟨w.heap.size, 0, none⟩) n n) n (madeCells #[z] (n * 1)).toList) : Own w' w.heap.size n (fun _ => z) := by
  refine ⟨fun i hi => ?_, fun i => h.frozenAt i, (h.lt _ rfl).2⟩
  rw [h.cellAt i (by omega)]
  simp [madeCells, hi, Nat.mod_one]
/-- A row behind appends: at most what is owned. -/
theorem own_owned {w : World} {B t g n cap : Nat} {xs : List Value} (h : w.ownsRow B t 1 (.slice (some ⟨g, 0, none⟩) n cap) n xs) (f : Nat → Value) (hf : ∀ i, i < n → xs[i]? = some (f i)) : Own w g n f :=
  ⟨fun i hi => by rw [h.cellAt i (by omega)]; exact hf i hi, fun i => h.frozenAt i, (h.lt _ rfl).2⟩
end Go.Proofs.YtoloenkcfpfgcaaDoor.Tk
namespace Go.Proofs.YtoloenkcfpfgcaaDoor.Tk
open Go.ChangeShapes Go.WideShapes Go.ChangeAt Go.RowKit
theorem info4 : (Tryd.prog.info? 4).map (fun i => (i.zero, i.size, i.bytes)) = some (some (.bool false), 1, 1) := by kernel_rfl
theorem info39 : (Tryd.prog.info? 23).map (fun i => (i.zero, i.size, i.bytes)) = some (some (.int .u32 0), 1, 4) := by kernel_rfl
theorem info3 : (Tryd.prog.info? 3).map (fun i => (i.zero, i.size, i.bytes)) = some (some (.int .i64 0), 1, 8) := by kernel_rfl

set_option maxRecDepth 100000 in
set_option maxHeartbeats 1000000 in
theorem toU (n b off cap : Nat) (f : Nat → Int) (w : World) (hn : n ≤ 1048576) (hb : b < w.heap.size) (hc : ∀ i, i < n → w.cell? ⟨b, off + i, none⟩ = some (.int .u32 (f i))) :
    Calls Tryd.prog 5 #[.slice (some ⟨b, off, none⟩) n cap] w fun r w' => r = .returned (.slice (some ⟨w.heap.size, 0, none⟩) n n) ∧ Own w' w.heap.size n (fun i => .int .u32 (f i)) ∧ Below w.heap.size w w' := by
  obtain ⟨i0, hi, hz0, hz1, hz2⟩ := info_parts info39
  go_enter Tryd.func5, Tryd.ntmps5
  go_wp2_with (at_make; refine wpList_make_full _ rfl _ _ 22 rfl w.heap.size 23 i0 (.int .u32 0) 1 Tryd.underlying22 hi hz0 hz1 _ _ _ _ n rfl rfl (by first | rfl | omega) (by first | rfl | omega) (by rw [hz2]; omega) (by unfold maxLen; omega) (Nat.le_refl _) ?_; intro w1 hown hgrow)
  have O1 : Own w1 w.heap.size n (fun _ => .int .u32 0) := own_made hown
  have B1 : Below w.heap.size w w1 := (Below.refl _ _).grown hgrow (Nat.le_refl _) (by simp)
  clear hown hgrow hi hz0 hz1 hz2
  go_loopw [4] (fun i wr => ∃ k : Nat, k ≤ n ∧ i = .int .i64 k ∧ Own wr w.heap.size n (fun j => if j < k then .int .u32 (f j) else .int .u32 0) ∧ Below w.heap.size w wr) (fun i _ => n - (intOf i).toNat)
  case atStart => exact ⟨0, by omega, rfl, O1.mono (Nat.le_refl _) (fun j _ => by simp), B1⟩
  case round =>
    obtain ⟨k, hk, rfl, OK, BK⟩ := hrel
    by_cases hkn : k < n
    · have i1 : (k : Int) < (n : Int) := by omega
      have i0 : (0 : Int) ≤ (k : Int) := by omega
      have f0 := OK.free k
      have g0 : wr.cell? ⟨w.heap.size, k, none⟩ = some (.int .u32 0) := by have := OK.cell k hkn; simpa using this
      have c0 : wr.cell? ⟨b, off + k, none⟩ = some (.int .u32 (f k)) := (BK.cell (p := ⟨b, off + k, none⟩) hb).trans (hc k hkn)
      go_wp2
      go_roundw
      case rel => exact ⟨k + 1, by omega, by go_num, OK.set k _ hkn (fun j _ => by by_cases e1 : j = k; subst e1; simp; rw [if_neg e1]; by_cases e2 : j < k; rw [if_pos e2, if_pos (by omega)]; rw [if_neg e2, if_neg (by omega)]), BK.setCell (Nat.le_refl _) _⟩
      case measure => simp [intOf]; omega
    · have hkk : k = n := by omega
      subst hkk
      go_wp2
      go_ret
      exact ⟨rfl, OK.mono (Nat.le_refl _) (fun j hj => by simp [hj]), BK⟩
set_option maxRecDepth 100000 in
theorem toU0 (a : Option Addr) (cap : Nat) (f : Nat → Int) (w : World) :
    Calls Tryd.prog 5 #[.slice a 0 cap] w fun r w' => r = .returned (.slice (some ⟨w.heap.size, 0, none⟩) 0 0) ∧ Own w' w.heap.size 0 (fun i => .int .u32 (f i)) ∧ Below w.heap.size w w' := by
  obtain ⟨i0, hi, hz0, hz1, hz2⟩ := info_parts info39
  go_enter Tryd.func5, Tryd.ntmps5
  go_wp2_with (at_make; refine wpList_make_full _ rfl _ _ 22 rfl w.heap.size 23 i0 (.int .u32 0) 1 Tryd.underlying22 hi hz0 hz1 _ _ _ _ 0 rfl rfl (by first | rfl | omega) (by first | rfl | omega) (by rw [hz2]; omega) (by unfold maxLen; omega) (Nat.le_refl _) ?_; intro w1 hown hgrow)
  have O1 : Own w1 w.heap.size 0 (fun _ => .int .u32 0) := own_made hown
  have B1 : Below w.heap.size w w1 := (Below.refl _ _).grown hgrow (Nat.le_refl _) (by simp)
  clear hown hgrow hi hz0 hz1 hz2
  refine wp_loop_rounds 1 ?_
  rw [rounds_succ]
  go_wp2
  go_ret
  exact ⟨rfl, O1.mono (Nat.le_refl _) (fun j hj => by omega), B1⟩

set_option maxHeartbeats 1000000 in
theorem eqU (n a b ca cb : Nat) (f : Nat → Int) (w : World) (hn : n ≤ 1048576) (ha : ∀ i, i < n → w.cell? ⟨a, i, none⟩ = some (.int .u32 (f i))) (hb : ∀ i, i < n → w.cell? ⟨b, i, none⟩ = some (.int .u32 (f i))) :
    Calls Tryd.prog 7 #[.slice (some ⟨a, 0, none⟩) n ca, .slice (some ⟨b, 0, none⟩) n cb] w fun r w' => r = .returned (.bool true) ∧ ∃ k, w' = w.drewN k := by
  go_enter Tryd.func7, Tryd.ntmps7
  go_wp2
  go_loopw [5] (fun i wx => ∃ k q : Nat, k ≤ n ∧ i = .int .i64 k ∧ wx = w.drewN q) (fun i _ => n - (intOf i).toNat)
  case atStart => exact ⟨0, 0, by omega, rfl, rfl⟩
  case round =>
    obtain ⟨k, q, hk, rfl, rfl⟩ := hrel
    by_cases hkn : k < n
    · have c1 : w.cell? ⟨a, k, none⟩ = some (.int .u32 (f k)) := ha k hkn
      have c2 : w.cell? ⟨b, k, none⟩ = some (.int .u32 (f k)) := hb k hkn
      have i0 : (0 : Int) ≤ (k : Int) := by omega
      have i1 : (k : Int) < (n : Int) := by omega
      go_wp2
      go_quiet (fail)
      go_wp2
      go_roundw
      case rel => exact ⟨k + 1, _, by omega, by go_num, rfl⟩
      case measure => simp [intOf]; omega
    · have hkk : k = n := by omega
      subst hkk
      go_wp2
      go_ret
      exact ⟨rfl, q, rfl⟩
theorem eqU0 (a b : Option Addr) (ca cb : Nat) (w : World) :
    Calls Tryd.prog 7 #[.slice a 0 ca, .slice b 0 cb] w fun r w' => r = .returned (.bool true) ∧ w' = w := by
  go_enter Tryd.func7, Tryd.ntmps7
  go_wp2
  refine wp_loop_rounds 1 ?_
  rw [rounds_succ]
  go_wp2
  go_ret
  exact ⟨rfl, rfl⟩

end Go.Proofs.YtoloenkcfpfgcaaDoor.Tk
namespace Go.Proofs.YtoloenkcfpfgcaaDoor.Tk
open Go.ChangeShapes Go.WideShapes Go.ChangeAt Go.RowKit
/-- A slice that came in: n elements at a; of an empty one nothing is asked. -/
def Arg (w : World) (a : Option Addr) (n : Nat) (f : Nat → Value) : Prop := n = 0 ∨ ∃ b off, a = some ⟨b, off, none⟩ ∧ b < w.heap.size ∧ ∀ i, i < n → w.cell? ⟨b, off + i, none⟩ = some (f i)
theorem Arg.next {w w' : World} {a : Option Addr} {n : Nat} {f : Nat → Value} (h : Arg w a n f) (hb : Below w.heap.size w w') : Arg w' a n f := by
  rcases h with h | ⟨b, off, ha, hl, hc⟩
  · exact Or.inl h
  · exact Or.inr ⟨b, off, ha, by have := hb.size; omega, fun i hi => (hb.cell (p := ⟨b, off + i, none⟩) hl).trans (hc i hi)⟩
theorem Arg.drewN {w : World} {a : Option Addr} {n : Nat} {f : Nat → Value} (h : Arg w a n f) (q : Nat) : Arg (w.drewN q) a n f := h
theorem Arg.to {w0 w : World} {a : Option Addr} {n : Nat} {f : Nat → Value} (h : Arg w0 a n f) (hb : Below w0.heap.size w0 w) : Arg w a n f := h.next hb
theorem argU {w : World} {a : Option Addr} {n : Nat} {f : Nat → Int} (h : Arg w a n (fun i => .int .u32 (f i))) (cap : Nat) (hn : n ≤ 1048576) :
    Calls Tryd.prog 5 #[.slice a n cap] w fun r w' => r = .returned (.slice (some ⟨w.heap.size, 0, none⟩) n n) ∧ Own w' w.heap.size n (fun i => .int .u32 (f i)) ∧ Below w.heap.size w w' := by
  rcases h with rfl | ⟨b, off, rfl, hl, hc⟩
  · exact toU0 a cap f w
  · exact toU n b off cap f w hn hl hc
theorem zero_wf (k : IntKind) : (Lit.int k 0).wf = true := by cases k <;> rfl
section
variable {H : Type} {enc : TypeId × Value → H} {P : Program} {W : World} {base : Nat}
theorem view_ints {t e : TypeId} {k : IntKind} {v : Value} {d : DataW H} {p : List MemPlace} (ht : P.underlying t = some (.slice e)) (he : P.underlying e = some (.int k)) (hc : P.cellsOf e = 1)
    (hok : Value.okWide P W .any base t v) (h : DataW.Trod enc P W 0 (fun _ => true) true t v d p) (hlt : ∀ x ∈ p, x.block < W.heap.size) :
    ∃ (a : Option Addr) (len cap : Nat) (f : Nat → Int), v = .slice a len cap ∧ len ≤ 9223372036854775807 ∧ Arg W a len (fun i => .int k (f i)) ∧ ∀ i, (Lit.int k (f i)).wf = true := by
  obtain ⟨a0, len, cap, rfl⟩ := okWide_slice ht hok
  obtain ⟨fuel, hf⟩ := h
  rcases open_ints ht he hc hf with ⟨hcs, hx⟩ | ⟨a, len', cap', zs, hcs, _, hl, hm, hz, hx, hcell, hwz⟩
  · simp [Value.cells] at hcs
    obtain ⟨rfl, rfl, rfl⟩ := hcs
    exact ⟨_, 0, 0, fun _ => 0, rfl, by omega, Or.inl rfl, fun _ => zero_wf k⟩
  · simp [Value.cells] at hcs
    obtain ⟨rfl, rfl, rfl⟩ := hcs
    simp only [Prod.mk.injEq] at hx
    obtain ⟨rfl, rfl⟩ := hx
    simp only [if_true] at hz
    refine ⟨_, len, cap, fun i => zs.getD i 0, rfl, by unfold maxLen at hm; omega, ?_, fun i => ?_⟩
    · by_cases hl0 : len = 0
      · exact Or.inl hl0
      · obtain ⟨b, off, spot⟩ := a
        have hspot : spot = none := by simpa [Addr.add] using World.cell?_spot (hcell 0 (by omega))
        subst hspot
        have hbW : b < W.heap.size := hlt (.cell b off) (MemPlace.mem_row.2 ⟨0, by omega, by simp⟩)
        exact Or.inr ⟨b, off, rfl, hbW, fun j hj => by rw [← add_plain]; exact hcell j (by omega)⟩
    · show (Lit.int k (zs.getD i 0)).wf = true
      by_cases hi : i < zs.length
      · have e : zs.getD i 0 = zs[i] := by simp [List.getD, hi]
        rw [e]
        exact hwz _ (List.getElem_mem hi)
      · have e : zs.getD i 0 = 0 := by simp [List.getD, List.getElem?_eq_none (Nat.le_of_not_lt hi)]
        rw [e]
        exact zero_wf k
theorem view_bools {t e : TypeId} {v : Value} {d : DataW H} {p : List MemPlace} (ht : P.underlying t = some (.slice e)) (he : P.underlying e = some .bool) (hc : P.cellsOf e = 1)
    (hok : Value.okWide P W .any base t v) (h : DataW.Trod enc P W 0 (fun _ => true) true t v d p) (hlt : ∀ x ∈ p, x.block < W.heap.size) :
    ∃ (a : Option Addr) (len cap : Nat) (f : Nat → Bool), v = .slice a len cap ∧ len ≤ 9223372036854775807 ∧ Arg W a len (fun i => .bool (f i)) := by
  obtain ⟨a0, len, cap, rfl⟩ := okWide_slice ht hok
  obtain ⟨fuel, hf⟩ := h
  rcases Go.Deep.open_bools ht he hc hf with ⟨hcs, hx⟩ | ⟨a, len', cap', B, hcs, _, hl, hm, hx, hcell⟩
  · simp [Value.cells] at hcs
    obtain ⟨rfl, rfl, rfl⟩ := hcs
    exact ⟨_, 0, 0, fun _ => false, rfl, by omega, Or.inl rfl⟩
  · simp [Value.cells] at hcs
    obtain ⟨rfl, rfl, rfl⟩ := hcs
    simp only [Prod.mk.injEq] at hx
    obtain ⟨rfl, rfl⟩ := hx
    refine ⟨_, len, cap, B, rfl, by unfold maxLen at hm; omega, ?_⟩
    by_cases hl0 : len = 0
    · exact Or.inl hl0
    · obtain ⟨b, off, spot⟩ := a
      have hspot : spot = none := by simpa [Addr.add] using World.cell?_spot (hcell 0 (by omega))
      subst hspot
      have hbW : b < W.heap.size := hlt (.cell b off) (MemPlace.mem_row.2 ⟨0, by omega, by simp⟩)
      exact Or.inr ⟨b, off, rfl, hbW, fun j hj => by rw [← add_plain]; exact hcell j (by omega)⟩
end
end Go.Proofs.YtoloenkcfpfgcaaDoor.Tk
namespace Go.Proofs.YtoloenkcfpfgcaaDoor
open Go.ChangeShapes Go.WideShapes Go.ChangeAt Go.RowKit

set_option linter.unusedVariables false
theorem s4_ne (s : ByteArray) (kind : Int) (a n : Nat) (w : World) (hne : ¬ (n : Int) = Ca.ar s) : Calls Tryd.prog 4 #[.string s, .int .i64 kind, .slice (some ⟨a, 0, none⟩) n n] w fun e w' => e = .returned (.int .u32 0) ∧ Below w.heap.size w w' := by
  have h8 := Ca.arity10 s
  generalize Ca.ar s = A at *
  have b1 : ((n : Int) == A) = false := by simpa using hne
  have b2 : ((n : Int) != A) = true := by simpa using hne
  clear hne
  go_enter Tryd.func4, Tryd.ntmps4
  go_wp2_with (go_at_call 8; refine (h8 _).mono ?_; rintro e w1 ⟨rfl, hw1⟩; subst w1)
  go_ret
  exact ⟨rfl, Below.refl _ _⟩
theorem s4_kind (s : ByteArray) (kind : Int) (a n : Nat) (w : World) (he : (n : Int) = Ca.ar s) (k1 : ¬ kind = 1) (k2 : ¬ kind = 2) : Calls Tryd.prog 4 #[.string s, .int .i64 kind, .slice (some ⟨a, 0, none⟩) n n] w fun e w' => e = .returned (.int .u32 0) ∧ Below w.heap.size w w' := by
  have h8 := Ca.arity10 s
  generalize Ca.ar s = A at *
  have b1 : ((n : Int) == A) = true := by simpa using he
  have b2 : ((n : Int) != A) = false := by simpa using he
  have b3 : (kind == 1) = false := by simpa using k1
  have b4 : (kind == 2) = false := by simpa using k2
  have b5 : (kind != 1) = true := by simpa using k1
  have b6 : (kind != 2) = true := by simpa using k2
  clear he k1 k2
  go_enter Tryd.func4, Tryd.ntmps4
  go_wp2_with (go_at_call 8; refine (h8 _).mono ?_; rintro e w1 ⟨rfl, hw1⟩; subst w1)
  go_ret
  exact ⟨rfl, Below.refl _ _⟩
theorem s4_zero (s : ByteArray) (kind : Int) (a : Nat) (w : World) (he : (0 : Int) = Ca.ar s) (kk : kind = 1 ∨ kind = 2) : Calls Tryd.prog 4 #[.string s, .int .i64 kind, .slice (some ⟨a, 0, none⟩) 0 0] w fun e w' => e = .returned (.int .u32 0) ∧ Below w.heap.size w w' := by
  have h8 := Ca.arity10 s
  generalize Ca.ar s = A at *
  subst he
  rcases kk with rfl | rfl
  all_goals
    go_enter Tryd.func4, Tryd.ntmps4
    go_wp2_with (go_at_call 8; refine (h8 _).mono ?_; rintro e w1 ⟨rfl, hw1⟩; subst w1)
    go_ret
    exact ⟨rfl, Below.refl _ _⟩
theorem s4_go1 (s : ByteArray) (a n : Nat) (R : Int) (w : World) (he : (n : Int) = Ca.ar s) (hn : 1 ≤ n) (h : Calls Tryd.prog 9 #[.string s, .bool false, .slice (some ⟨a, 0, none⟩) n n] w fun e w' => e = .returned (.int .u32 R) ∧ Below w.heap.size w w') : Calls Tryd.prog 4 #[.string s, .int .i64 1, .slice (some ⟨a, 0, none⟩) n n] w fun e w' => e = .returned (.int .u32 R) ∧ Below w.heap.size w w' := by
  have h8 := Ca.arity10 s
  generalize Ca.ar s = A at *
  have b1 : ((n : Int) == A) = true := by simpa using he
  have b2 : ((n : Int) != A) = false := by simpa using he
  have b3 : ((n : Int) == 0) = false := by simpa using (show ¬ n = 0 by omega)
  have b4 : ¬ n = 0 := by omega
  clear he
  go_enter Tryd.func4, Tryd.ntmps4
  go_wp2_with (first | (go_at_call 8; refine (h8 _).mono ?_; rintro e w1 ⟨rfl, hw1⟩; subst w1) | (go_at_call 9; refine h.mono ?_; rintro e w1 ⟨rfl, b1'⟩))
  go_ret
  exact ⟨rfl, b1'⟩
theorem s4_go2 (s : ByteArray) (a n : Nat) (R : Int) (w : World) (he : (n : Int) = Ca.ar s) (hn : 1 ≤ n) (h : Calls Tryd.prog 9 #[.string s, .bool true, .slice (some ⟨a, 0, none⟩) n n] w fun e w' => e = .returned (.int .u32 R) ∧ Below w.heap.size w w') : Calls Tryd.prog 4 #[.string s, .int .i64 2, .slice (some ⟨a, 0, none⟩) n n] w fun e w' => e = .returned (.int .u32 R) ∧ Below w.heap.size w w' := by
  have h8 := Ca.arity10 s
  generalize Ca.ar s = A at *
  have b1 : ((n : Int) == A) = true := by simpa using he
  have b2 : ((n : Int) != A) = false := by simpa using he
  have b3 : ((n : Int) == 0) = false := by simpa using (show ¬ n = 0 by omega)
  have b4 : ¬ n = 0 := by omega
  clear he
  go_enter Tryd.func4, Tryd.ntmps4
  go_wp2_with (first | (go_at_call 8; refine (h8 _).mono ?_; rintro e w1 ⟨rfl, hw1⟩; subst w1) | (go_at_call 9; refine h.mono ?_; rintro e w1 ⟨rfl, b1'⟩))
  go_ret
  exact ⟨rfl, b1'⟩
theorem i6_ne (s : ByteArray) (kind : Int) (a n : Nat) (w : World) (G : Ca.Forms w) (hne : ¬ (n : Int) = Ca.ar s) : Calls Tryd.prog 6 #[.string s, .int .i64 kind, .slice (some ⟨a, 0, none⟩) n n] w fun e w' => e = .returned (.int .u32 0) ∧ Below w.heap.size w w' := by
  have h10 := Ca.arity11 s
  generalize Ca.ar s = A at *
  have b1 : ((n : Int) == A) = false := by simpa using hne
  have b2 : ((n : Int) != A) = true := by simpa using hne
  clear hne
  go_enter Tryd.func6, Tryd.ntmps6
  go_wp2_with (go_at_call 10; refine (h10 w G).mono ?_; rintro e w1 ⟨rfl, B1⟩)
  go_ret
  exact ⟨rfl, B1⟩
set_option maxRecDepth 100000 in
set_option maxHeartbeats 4000000 in
theorem i6_0_1 (s : ByteArray) (kind R : Int) (a : Nat) (w : World) (G : Ca.Forms w) (he : (0 : Int) = Ca.ar s) (h : ∀ w' : World, Below w.heap.size w w' → Calls Tryd.prog 11 #[.string s, .agg #[.int .u32 0, .int .u32 0, .int .u32 0]] w' fun e w'' => e = .returned (.int .u32 R) ∧ Below w'.heap.size w' w'') : Calls Tryd.prog 6 #[.string s, .int .i64 1, .slice (some ⟨a, 0, none⟩) 0 0] w fun e w' => e = .returned (.int .u32 R) ∧ Below w.heap.size w w' := by
  have h10 := Ca.arity11 s
  generalize Ca.ar s = A at *
  subst he
  go_enter Tryd.func6, Tryd.ntmps6
  go_wp2_with (first | (go_at_call 10; refine (h10 w G).mono ?_; rintro e w1 ⟨rfl, B1⟩; (have hcp : (Builtin.copy_ #[22, 22] 3 #[.slice (some ⟨w1.heap.size, 0, none⟩) 3 3, .slice (some ⟨a, 0, none⟩) 0 0]).run Tryd.prog (w1.alloc (.cells #[.int .u32 0, .int .u32 0, .int .u32 0] 30)) = .ok (goInt 0) (w1.alloc (.cells #[.int .u32 0, .int .u32 0, .int .u32 0] 30)) := run_copy_none _ 22 22 3 23 _ _ 3 3 0 0 Tryd.underlying22 (by kernel_rfl) rfl); (have bA : Below w.heap.size w (w1.alloc (.cells #[.int .u32 0, .int .u32 0, .int .u32 0] 30)) := B1.alloc B1.size _)) | (go_at_call 11; refine (h _ bA).mono ?_; rintro e w2 ⟨rfl, B2⟩))
  go_ret
  exact ⟨rfl, bA.trans (B2.mono bA.size)⟩
set_option maxRecDepth 100000 in
set_option maxHeartbeats 4000000 in
theorem i6_0_2 (s : ByteArray) (kind R : Int) (a : Nat) (w : World) (G : Ca.Forms w) (he : (0 : Int) = Ca.ar s) (h : ∀ w' : World, Below w.heap.size w w' → Calls Tryd.prog 12 #[.string s, .agg #[.int .u32 0, .int .u32 0, .int .u32 0]] w' fun e w'' => e = .returned (.int .u32 R) ∧ Below w'.heap.size w' w'') : Calls Tryd.prog 6 #[.string s, .int .i64 2, .slice (some ⟨a, 0, none⟩) 0 0] w fun e w' => e = .returned (.int .u32 R) ∧ Below w.heap.size w w' := by
  have h10 := Ca.arity11 s
  generalize Ca.ar s = A at *
  subst he
  go_enter Tryd.func6, Tryd.ntmps6
  go_wp2_with (first | (go_at_call 10; refine (h10 w G).mono ?_; rintro e w1 ⟨rfl, B1⟩; (have hcp : (Builtin.copy_ #[22, 22] 3 #[.slice (some ⟨w1.heap.size, 0, none⟩) 3 3, .slice (some ⟨a, 0, none⟩) 0 0]).run Tryd.prog (w1.alloc (.cells #[.int .u32 0, .int .u32 0, .int .u32 0] 30)) = .ok (goInt 0) (w1.alloc (.cells #[.int .u32 0, .int .u32 0, .int .u32 0] 30)) := run_copy_none _ 22 22 3 23 _ _ 3 3 0 0 Tryd.underlying22 (by kernel_rfl) rfl); (have bA : Below w.heap.size w (w1.alloc (.cells #[.int .u32 0, .int .u32 0, .int .u32 0] 30)) := B1.alloc B1.size _)) | (go_at_call 12; refine (h _ bA).mono ?_; rintro e w2 ⟨rfl, B2⟩))
  go_ret
  exact ⟨rfl, bA.trans (B2.mono bA.size)⟩
set_option maxRecDepth 100000 in
set_option maxHeartbeats 4000000 in
theorem i6_0_0 (s : ByteArray) (kind R : Int) (a : Nat) (w : World) (G : Ca.Forms w) (he : (0 : Int) = Ca.ar s) (k1 : ¬ kind = 1) (k2 : ¬ kind = 2) : Calls Tryd.prog 6 #[.string s, .int .i64 kind, .slice (some ⟨a, 0, none⟩) 0 0] w fun e w' => e = .returned (.int .u32 0) ∧ Below w.heap.size w w' := by
  have h10 := Ca.arity11 s
  generalize Ca.ar s = A at *
  subst he
  have b3 : (kind == 1) = false := by simpa using k1
  have b4 : (kind == 2) = false := by simpa using k2
  clear k1 k2
  go_enter Tryd.func6, Tryd.ntmps6
  go_wp2_with (first | (go_at_call 10; refine (h10 w G).mono ?_; rintro e w1 ⟨rfl, B1⟩; (have hcp : (Builtin.copy_ #[22, 22] 3 #[.slice (some ⟨w1.heap.size, 0, none⟩) 3 3, .slice (some ⟨a, 0, none⟩) 0 0]).run Tryd.prog (w1.alloc (.cells #[.int .u32 0, .int .u32 0, .int .u32 0] 30)) = .ok (goInt 0) (w1.alloc (.cells #[.int .u32 0, .int .u32 0, .int .u32 0] 30)) := run_copy_none _ 22 22 3 23 _ _ 3 3 0 0 Tryd.underlying22 (by kernel_rfl) rfl); (have bA : Below w.heap.size w (w1.alloc (.cells #[.int .u32 0, .int .u32 0, .int .u32 0] 30)) := B1.alloc B1.size _)))
  go_ret
  exact ⟨rfl, bA⟩
set_option maxRecDepth 100000 in
set_option maxHeartbeats 4000000 in
theorem i6_1_1 (s : ByteArray) (kind R : Int) (a : Nat) (d0 : Int) (w : World) (G : Ca.Forms w) (c0 : w.cell? ⟨a, 0, none⟩ = some (.int .u32 d0)) (he : (1 : Int) = Ca.ar s) (h : ∀ w' : World, Below w.heap.size w w' → Calls Tryd.prog 11 #[.string s, .agg #[.int .u32 d0, .int .u32 0, .int .u32 0]] w' fun e w'' => e = .returned (.int .u32 R) ∧ Below w'.heap.size w' w'') : Calls Tryd.prog 6 #[.string s, .int .i64 1, .slice (some ⟨a, 0, none⟩) 1 1] w fun e w' => e = .returned (.int .u32 R) ∧ Below w.heap.size w w' := by
  have h10 := Ca.arity11 s
  generalize Ca.ar s = A at *
  subst he
  go_enter Tryd.func6, Tryd.ntmps6
  go_wp2_with (first | (go_at_call 10; refine (h10 w G).mono ?_; rintro e w1 ⟨rfl, B1⟩; (have x0 : (w1.alloc (.cells #[.int .u32 0, .int .u32 0, .int .u32 0] 30)).cell? ⟨a, 0, none⟩ = some (.int .u32 d0) := ((B1.alloc B1.size _).cell (p := ⟨a, 0, none⟩) (World.block_lt_of_cell? w ⟨a, 0, none⟩ c0)).trans c0); (have hcp : (Builtin.copy_ #[22, 22] 3 #[.slice (some ⟨w1.heap.size, 0, none⟩) 3 3, .slice (some ⟨a, 0, none⟩) 1 1]).run Tryd.prog (w1.alloc (.cells #[.int .u32 0, .int .u32 0, .int .u32 0] 30)) = .ok (goInt 1) (w1.alloc (.cells #[.int .u32 d0, .int .u32 0, .int .u32 0] 30)) := by (have h0 := run_copy_row (P := Tryd.prog) (w1.alloc (.cells #[.int .u32 0, .int .u32 0, .int .u32 0] 30)) 22 22 3 23 w1.heap.size 0 3 3 ⟨a, 0, none⟩ 1 1 #[.int .u32 0, .int .u32 0, .int .u32 0] 30 [.int .u32 d0] Tryd.underlying22 (by kernel_rfl) (heap_alloc_new _ _) rfl (fun j v hj => by match j, hj with | 0, hj => (simp at hj; subst hj; rw [add_plain]; exact x0)) (by simp) (by simp [Value.oneCell'])); (rw [World.setRow_alloc_new] at h0); exact h0); (have bA : Below w.heap.size w (w1.alloc (.cells #[.int .u32 d0, .int .u32 0, .int .u32 0] 30)) := B1.alloc B1.size _)) | (go_at_call 11; refine (h _ bA).mono ?_; rintro e w2 ⟨rfl, B2⟩))
  go_ret
  exact ⟨rfl, bA.trans (B2.mono bA.size)⟩
set_option maxRecDepth 100000 in
set_option maxHeartbeats 4000000 in
theorem i6_1_2 (s : ByteArray) (kind R : Int) (a : Nat) (d0 : Int) (w : World) (G : Ca.Forms w) (c0 : w.cell? ⟨a, 0, none⟩ = some (.int .u32 d0)) (he : (1 : Int) = Ca.ar s) (h : ∀ w' : World, Below w.heap.size w w' → Calls Tryd.prog 12 #[.string s, .agg #[.int .u32 d0, .int .u32 0, .int .u32 0]] w' fun e w'' => e = .returned (.int .u32 R) ∧ Below w'.heap.size w' w'') : Calls Tryd.prog 6 #[.string s, .int .i64 2, .slice (some ⟨a, 0, none⟩) 1 1] w fun e w' => e = .returned (.int .u32 R) ∧ Below w.heap.size w w' := by
  have h10 := Ca.arity11 s
  generalize Ca.ar s = A at *
  subst he
  go_enter Tryd.func6, Tryd.ntmps6
  go_wp2_with (first | (go_at_call 10; refine (h10 w G).mono ?_; rintro e w1 ⟨rfl, B1⟩; (have x0 : (w1.alloc (.cells #[.int .u32 0, .int .u32 0, .int .u32 0] 30)).cell? ⟨a, 0, none⟩ = some (.int .u32 d0) := ((B1.alloc B1.size _).cell (p := ⟨a, 0, none⟩) (World.block_lt_of_cell? w ⟨a, 0, none⟩ c0)).trans c0); (have hcp : (Builtin.copy_ #[22, 22] 3 #[.slice (some ⟨w1.heap.size, 0, none⟩) 3 3, .slice (some ⟨a, 0, none⟩) 1 1]).run Tryd.prog (w1.alloc (.cells #[.int .u32 0, .int .u32 0, .int .u32 0] 30)) = .ok (goInt 1) (w1.alloc (.cells #[.int .u32 d0, .int .u32 0, .int .u32 0] 30)) := by (have h0 := run_copy_row (P := Tryd.prog) (w1.alloc (.cells #[.int .u32 0, .int .u32 0, .int .u32 0] 30)) 22 22 3 23 w1.heap.size 0 3 3 ⟨a, 0, none⟩ 1 1 #[.int .u32 0, .int .u32 0, .int .u32 0] 30 [.int .u32 d0] Tryd.underlying22 (by kernel_rfl) (heap_alloc_new _ _) rfl (fun j v hj => by match j, hj with | 0, hj => (simp at hj; subst hj; rw [add_plain]; exact x0)) (by simp) (by simp [Value.oneCell'])); (rw [World.setRow_alloc_new] at h0); exact h0); (have bA : Below w.heap.size w (w1.alloc (.cells #[.int .u32 d0, .int .u32 0, .int .u32 0] 30)) := B1.alloc B1.size _)) | (go_at_call 12; refine (h _ bA).mono ?_; rintro e w2 ⟨rfl, B2⟩))
  go_ret
  exact ⟨rfl, bA.trans (B2.mono bA.size)⟩
set_option maxRecDepth 100000 in
set_option maxHeartbeats 4000000 in
theorem i6_1_0 (s : ByteArray) (kind R : Int) (a : Nat) (d0 : Int) (w : World) (G : Ca.Forms w) (c0 : w.cell? ⟨a, 0, none⟩ = some (.int .u32 d0)) (he : (1 : Int) = Ca.ar s) (k1 : ¬ kind = 1) (k2 : ¬ kind = 2) : Calls Tryd.prog 6 #[.string s, .int .i64 kind, .slice (some ⟨a, 0, none⟩) 1 1] w fun e w' => e = .returned (.int .u32 0) ∧ Below w.heap.size w w' := by
  have h10 := Ca.arity11 s
  generalize Ca.ar s = A at *
  subst he
  have b3 : (kind == 1) = false := by simpa using k1
  have b4 : (kind == 2) = false := by simpa using k2
  clear k1 k2
  go_enter Tryd.func6, Tryd.ntmps6
  go_wp2_with (first | (go_at_call 10; refine (h10 w G).mono ?_; rintro e w1 ⟨rfl, B1⟩; (have x0 : (w1.alloc (.cells #[.int .u32 0, .int .u32 0, .int .u32 0] 30)).cell? ⟨a, 0, none⟩ = some (.int .u32 d0) := ((B1.alloc B1.size _).cell (p := ⟨a, 0, none⟩) (World.block_lt_of_cell? w ⟨a, 0, none⟩ c0)).trans c0); (have hcp : (Builtin.copy_ #[22, 22] 3 #[.slice (some ⟨w1.heap.size, 0, none⟩) 3 3, .slice (some ⟨a, 0, none⟩) 1 1]).run Tryd.prog (w1.alloc (.cells #[.int .u32 0, .int .u32 0, .int .u32 0] 30)) = .ok (goInt 1) (w1.alloc (.cells #[.int .u32 d0, .int .u32 0, .int .u32 0] 30)) := by (have h0 := run_copy_row (P := Tryd.prog) (w1.alloc (.cells #[.int .u32 0, .int .u32 0, .int .u32 0] 30)) 22 22 3 23 w1.heap.size 0 3 3 ⟨a, 0, none⟩ 1 1 #[.int .u32 0, .int .u32 0, .int .u32 0] 30 [.int .u32 d0] Tryd.underlying22 (by kernel_rfl) (heap_alloc_new _ _) rfl (fun j v hj => by match j, hj with | 0, hj => (simp at hj; subst hj; rw [add_plain]; exact x0)) (by simp) (by simp [Value.oneCell'])); (rw [World.setRow_alloc_new] at h0); exact h0); (have bA : Below w.heap.size w (w1.alloc (.cells #[.int .u32 d0, .int .u32 0, .int .u32 0] 30)) := B1.alloc B1.size _)))
  go_ret
  exact ⟨rfl, bA⟩
set_option maxRecDepth 100000 in
set_option maxHeartbeats 4000000 in
theorem i6_2_1 (s : ByteArray) (kind R : Int) (a : Nat) (d0 d1 : Int) (w : World) (G : Ca.Forms w) (c0 : w.cell? ⟨a, 0, none⟩ = some (.int .u32 d0)) (c1 : w.cell? ⟨a, 1, none⟩ = some (.int .u32 d1)) (he : (2 : Int) = Ca.ar s) (h : ∀ w' : World, Below w.heap.size w w' → Calls Tryd.prog 11 #[.string s, .agg #[.int .u32 d0, .int .u32 d1, .int .u32 0]] w' fun e w'' => e = .returned (.int .u32 R) ∧ Below w'.heap.size w' w'') : Calls Tryd.prog 6 #[.string s, .int .i64 1, .slice (some ⟨a, 0, none⟩) 2 2] w fun e w' => e = .returned (.int .u32 R) ∧ Below w.heap.size w w' := by
  have h10 := Ca.arity11 s
  generalize Ca.ar s = A at *
  subst he
  go_enter Tryd.func6, Tryd.ntmps6
  go_wp2_with (first | (go_at_call 10; refine (h10 w G).mono ?_; rintro e w1 ⟨rfl, B1⟩; (have x0 : (w1.alloc (.cells #[.int .u32 0, .int .u32 0, .int .u32 0] 30)).cell? ⟨a, 0, none⟩ = some (.int .u32 d0) := ((B1.alloc B1.size _).cell (p := ⟨a, 0, none⟩) (World.block_lt_of_cell? w ⟨a, 0, none⟩ c0)).trans c0); (have x1 : (w1.alloc (.cells #[.int .u32 0, .int .u32 0, .int .u32 0] 30)).cell? ⟨a, 1, none⟩ = some (.int .u32 d1) := ((B1.alloc B1.size _).cell (p := ⟨a, 1, none⟩) (World.block_lt_of_cell? w ⟨a, 1, none⟩ c1)).trans c1); (have hcp : (Builtin.copy_ #[22, 22] 3 #[.slice (some ⟨w1.heap.size, 0, none⟩) 3 3, .slice (some ⟨a, 0, none⟩) 2 2]).run Tryd.prog (w1.alloc (.cells #[.int .u32 0, .int .u32 0, .int .u32 0] 30)) = .ok (goInt 2) (w1.alloc (.cells #[.int .u32 d0, .int .u32 d1, .int .u32 0] 30)) := by (have h0 := run_copy_row (P := Tryd.prog) (w1.alloc (.cells #[.int .u32 0, .int .u32 0, .int .u32 0] 30)) 22 22 3 23 w1.heap.size 0 3 3 ⟨a, 0, none⟩ 2 2 #[.int .u32 0, .int .u32 0, .int .u32 0] 30 [.int .u32 d0, .int .u32 d1] Tryd.underlying22 (by kernel_rfl) (heap_alloc_new _ _) rfl (fun j v hj => by match j, hj with | 0, hj => (simp at hj; subst hj; rw [add_plain]; exact x0) | 1, hj => (simp at hj; subst hj; rw [add_plain]; exact x1)) (by simp) (by simp [Value.oneCell'])); (rw [World.setRow_alloc_new] at h0); exact h0); (have bA : Below w.heap.size w (w1.alloc (.cells #[.int .u32 d0, .int .u32 d1, .int .u32 0] 30)) := B1.alloc B1.size _)) | (go_at_call 11; refine (h _ bA).mono ?_; rintro e w2 ⟨rfl, B2⟩))
  go_ret
  exact ⟨rfl, bA.trans (B2.mono bA.size)⟩
set_option maxRecDepth 100000 in
set_option maxHeartbeats 4000000 in
theorem i6_2_2 (s : ByteArray) (kind R : Int) (a : Nat) (d0 d1 : Int) (w : World) (G : Ca.Forms w) (c0 : w.cell? ⟨a, 0, none⟩ = some (.int .u32 d0)) (c1 : w.cell? ⟨a, 1, none⟩ = some (.int .u32 d1)) (he : (2 : Int) = Ca.ar s) (h : ∀ w' : World, Below w.heap.size w w' → Calls Tryd.prog 12 #[.string s, .agg #[.int .u32 d0, .int .u32 d1, .int .u32 0]] w' fun e w'' => e = .returned (.int .u32 R) ∧ Below w'.heap.size w' w'') : Calls Tryd.prog 6 #[.string s, .int .i64 2, .slice (some ⟨a, 0, none⟩) 2 2] w fun e w' => e = .returned (.int .u32 R) ∧ Below w.heap.size w w' := by
  have h10 := Ca.arity11 s
  generalize Ca.ar s = A at *
  subst he
  go_enter Tryd.func6, Tryd.ntmps6
  go_wp2_with (first | (go_at_call 10; refine (h10 w G).mono ?_; rintro e w1 ⟨rfl, B1⟩; (have x0 : (w1.alloc (.cells #[.int .u32 0, .int .u32 0, .int .u32 0] 30)).cell? ⟨a, 0, none⟩ = some (.int .u32 d0) := ((B1.alloc B1.size _).cell (p := ⟨a, 0, none⟩) (World.block_lt_of_cell? w ⟨a, 0, none⟩ c0)).trans c0); (have x1 : (w1.alloc (.cells #[.int .u32 0, .int .u32 0, .int .u32 0] 30)).cell? ⟨a, 1, none⟩ = some (.int .u32 d1) := ((B1.alloc B1.size _).cell (p := ⟨a, 1, none⟩) (World.block_lt_of_cell? w ⟨a, 1, none⟩ c1)).trans c1); (have hcp : (Builtin.copy_ #[22, 22] 3 #[.slice (some ⟨w1.heap.size, 0, none⟩) 3 3, .slice (some ⟨a, 0, none⟩) 2 2]).run Tryd.prog (w1.alloc (.cells #[.int .u32 0, .int .u32 0, .int .u32 0] 30)) = .ok (goInt 2) (w1.alloc (.cells #[.int .u32 d0, .int .u32 d1, .int .u32 0] 30)) := by (have h0 := run_copy_row (P := Tryd.prog) (w1.alloc (.cells #[.int .u32 0, .int .u32 0, .int .u32 0] 30)) 22 22 3 23 w1.heap.size 0 3 3 ⟨a, 0, none⟩ 2 2 #[.int .u32 0, .int .u32 0, .int .u32 0] 30 [.int .u32 d0, .int .u32 d1] Tryd.underlying22 (by kernel_rfl) (heap_alloc_new _ _) rfl (fun j v hj => by match j, hj with | 0, hj => (simp at hj; subst hj; rw [add_plain]; exact x0) | 1, hj => (simp at hj; subst hj; rw [add_plain]; exact x1)) (by simp) (by simp [Value.oneCell'])); (rw [World.setRow_alloc_new] at h0); exact h0); (have bA : Below w.heap.size w (w1.alloc (.cells #[.int .u32 d0, .int .u32 d1, .int .u32 0] 30)) := B1.alloc B1.size _)) | (go_at_call 12; refine (h _ bA).mono ?_; rintro e w2 ⟨rfl, B2⟩))
  go_ret
  exact ⟨rfl, bA.trans (B2.mono bA.size)⟩
set_option maxRecDepth 100000 in
set_option maxHeartbeats 4000000 in
theorem i6_2_0 (s : ByteArray) (kind R : Int) (a : Nat) (d0 d1 : Int) (w : World) (G : Ca.Forms w) (c0 : w.cell? ⟨a, 0, none⟩ = some (.int .u32 d0)) (c1 : w.cell? ⟨a, 1, none⟩ = some (.int .u32 d1)) (he : (2 : Int) = Ca.ar s) (k1 : ¬ kind = 1) (k2 : ¬ kind = 2) : Calls Tryd.prog 6 #[.string s, .int .i64 kind, .slice (some ⟨a, 0, none⟩) 2 2] w fun e w' => e = .returned (.int .u32 0) ∧ Below w.heap.size w w' := by
  have h10 := Ca.arity11 s
  generalize Ca.ar s = A at *
  subst he
  have b3 : (kind == 1) = false := by simpa using k1
  have b4 : (kind == 2) = false := by simpa using k2
  clear k1 k2
  go_enter Tryd.func6, Tryd.ntmps6
  go_wp2_with (first | (go_at_call 10; refine (h10 w G).mono ?_; rintro e w1 ⟨rfl, B1⟩; (have x0 : (w1.alloc (.cells #[.int .u32 0, .int .u32 0, .int .u32 0] 30)).cell? ⟨a, 0, none⟩ = some (.int .u32 d0) := ((B1.alloc B1.size _).cell (p := ⟨a, 0, none⟩) (World.block_lt_of_cell? w ⟨a, 0, none⟩ c0)).trans c0); (have x1 : (w1.alloc (.cells #[.int .u32 0, .int .u32 0, .int .u32 0] 30)).cell? ⟨a, 1, none⟩ = some (.int .u32 d1) := ((B1.alloc B1.size _).cell (p := ⟨a, 1, none⟩) (World.block_lt_of_cell? w ⟨a, 1, none⟩ c1)).trans c1); (have hcp : (Builtin.copy_ #[22, 22] 3 #[.slice (some ⟨w1.heap.size, 0, none⟩) 3 3, .slice (some ⟨a, 0, none⟩) 2 2]).run Tryd.prog (w1.alloc (.cells #[.int .u32 0, .int .u32 0, .int .u32 0] 30)) = .ok (goInt 2) (w1.alloc (.cells #[.int .u32 d0, .int .u32 d1, .int .u32 0] 30)) := by (have h0 := run_copy_row (P := Tryd.prog) (w1.alloc (.cells #[.int .u32 0, .int .u32 0, .int .u32 0] 30)) 22 22 3 23 w1.heap.size 0 3 3 ⟨a, 0, none⟩ 2 2 #[.int .u32 0, .int .u32 0, .int .u32 0] 30 [.int .u32 d0, .int .u32 d1] Tryd.underlying22 (by kernel_rfl) (heap_alloc_new _ _) rfl (fun j v hj => by match j, hj with | 0, hj => (simp at hj; subst hj; rw [add_plain]; exact x0) | 1, hj => (simp at hj; subst hj; rw [add_plain]; exact x1)) (by simp) (by simp [Value.oneCell'])); (rw [World.setRow_alloc_new] at h0); exact h0); (have bA : Below w.heap.size w (w1.alloc (.cells #[.int .u32 d0, .int .u32 d1, .int .u32 0] 30)) := B1.alloc B1.size _)))
  go_ret
  exact ⟨rfl, bA⟩
set_option maxRecDepth 100000 in
set_option maxHeartbeats 4000000 in
theorem i6_3_1 (s : ByteArray) (kind R : Int) (a : Nat) (d0 d1 d2 : Int) (w : World) (G : Ca.Forms w) (c0 : w.cell? ⟨a, 0, none⟩ = some (.int .u32 d0)) (c1 : w.cell? ⟨a, 1, none⟩ = some (.int .u32 d1)) (c2 : w.cell? ⟨a, 2, none⟩ = some (.int .u32 d2)) (he : (3 : Int) = Ca.ar s) (h : ∀ w' : World, Below w.heap.size w w' → Calls Tryd.prog 11 #[.string s, .agg #[.int .u32 d0, .int .u32 d1, .int .u32 d2]] w' fun e w'' => e = .returned (.int .u32 R) ∧ Below w'.heap.size w' w'') : Calls Tryd.prog 6 #[.string s, .int .i64 1, .slice (some ⟨a, 0, none⟩) 3 3] w fun e w' => e = .returned (.int .u32 R) ∧ Below w.heap.size w w' := by
  have h10 := Ca.arity11 s
  generalize Ca.ar s = A at *
  subst he
  go_enter Tryd.func6, Tryd.ntmps6
  go_wp2_with (first | (go_at_call 10; refine (h10 w G).mono ?_; rintro e w1 ⟨rfl, B1⟩; (have x0 : (w1.alloc (.cells #[.int .u32 0, .int .u32 0, .int .u32 0] 30)).cell? ⟨a, 0, none⟩ = some (.int .u32 d0) := ((B1.alloc B1.size _).cell (p := ⟨a, 0, none⟩) (World.block_lt_of_cell? w ⟨a, 0, none⟩ c0)).trans c0); (have x1 : (w1.alloc (.cells #[.int .u32 0, .int .u32 0, .int .u32 0] 30)).cell? ⟨a, 1, none⟩ = some (.int .u32 d1) := ((B1.alloc B1.size _).cell (p := ⟨a, 1, none⟩) (World.block_lt_of_cell? w ⟨a, 1, none⟩ c1)).trans c1); (have x2 : (w1.alloc (.cells #[.int .u32 0, .int .u32 0, .int .u32 0] 30)).cell? ⟨a, 2, none⟩ = some (.int .u32 d2) := ((B1.alloc B1.size _).cell (p := ⟨a, 2, none⟩) (World.block_lt_of_cell? w ⟨a, 2, none⟩ c2)).trans c2); (have hcp : (Builtin.copy_ #[22, 22] 3 #[.slice (some ⟨w1.heap.size, 0, none⟩) 3 3, .slice (some ⟨a, 0, none⟩) 3 3]).run Tryd.prog (w1.alloc (.cells #[.int .u32 0, .int .u32 0, .int .u32 0] 30)) = .ok (goInt 3) (w1.alloc (.cells #[.int .u32 d0, .int .u32 d1, .int .u32 d2] 30)) := by (have h0 := run_copy_row (P := Tryd.prog) (w1.alloc (.cells #[.int .u32 0, .int .u32 0, .int .u32 0] 30)) 22 22 3 23 w1.heap.size 0 3 3 ⟨a, 0, none⟩ 3 3 #[.int .u32 0, .int .u32 0, .int .u32 0] 30 [.int .u32 d0, .int .u32 d1, .int .u32 d2] Tryd.underlying22 (by kernel_rfl) (heap_alloc_new _ _) rfl (fun j v hj => by match j, hj with | 0, hj => (simp at hj; subst hj; rw [add_plain]; exact x0) | 1, hj => (simp at hj; subst hj; rw [add_plain]; exact x1) | 2, hj => (simp at hj; subst hj; rw [add_plain]; exact x2)) (by simp) (by simp [Value.oneCell'])); (rw [World.setRow_alloc_new] at h0); exact h0); (have bA : Below w.heap.size w (w1.alloc (.cells #[.int .u32 d0, .int .u32 d1, .int .u32 d2] 30)) := B1.alloc B1.size _)) | (go_at_call 11; refine (h _ bA).mono ?_; rintro e w2 ⟨rfl, B2⟩))
  go_ret
  exact ⟨rfl, bA.trans (B2.mono bA.size)⟩
set_option maxRecDepth 100000 in
set_option maxHeartbeats 4000000 in
theorem i6_3_2 (s : ByteArray) (kind R : Int) (a : Nat) (d0 d1 d2 : Int) (w : World) (G : Ca.Forms w) (c0 : w.cell? ⟨a, 0, none⟩ = some (.int .u32 d0)) (c1 : w.cell? ⟨a, 1, none⟩ = some (.int .u32 d1)) (c2 : w.cell? ⟨a, 2, none⟩ = some (.int .u32 d2)) (he : (3 : Int) = Ca.ar s) (h : ∀ w' : World, Below w.heap.size w w' → Calls Tryd.prog 12 #[.string s, .agg #[.int .u32 d0, .int .u32 d1, .int .u32 d2]] w' fun e w'' => e = .returned (.int .u32 R) ∧ Below w'.heap.size w' w'') : Calls Tryd.prog 6 #[.string s, .int .i64 2, .slice (some ⟨a, 0, none⟩) 3 3] w fun e w' => e = .returned (.int .u32 R) ∧ Below w.heap.size w w' := by
  have h10 := Ca.arity11 s
  generalize Ca.ar s = A at *
  subst he
  go_enter Tryd.func6, Tryd.ntmps6
  go_wp2_with (first | (go_at_call 10; refine (h10 w G).mono ?_; rintro e w1 ⟨rfl, B1⟩; (have x0 : (w1.alloc (.cells #[.int .u32 0, .int .u32 0, .int .u32 0] 30)).cell? ⟨a, 0, none⟩ = some (.int .u32 d0) := ((B1.alloc B1.size _).cell (p := ⟨a, 0, none⟩) (World.block_lt_of_cell? w ⟨a, 0, none⟩ c0)).trans c0); (have x1 : (w1.alloc (.cells #[.int .u32 0, .int .u32 0, .int .u32 0] 30)).cell? ⟨a, 1, none⟩ = some (.int .u32 d1) := ((B1.alloc B1.size _).cell (p := ⟨a, 1, none⟩) (World.block_lt_of_cell? w ⟨a, 1, none⟩ c1)).trans c1); (have x2 : (w1.alloc (.cells #[.int .u32 0, .int .u32 0, .int .u32 0] 30)).cell? ⟨a, 2, none⟩ = some (.int .u32 d2) := ((B1.alloc B1.size _).cell (p := ⟨a, 2, none⟩) (World.block_lt_of_cell? w ⟨a, 2, none⟩ c2)).trans c2); (have hcp : (Builtin.copy_ #[22, 22] 3 #[.slice (some ⟨w1.heap.size, 0, none⟩) 3 3, .slice (some ⟨a, 0, none⟩) 3 3]).run Tryd.prog (w1.alloc (.cells #[.int .u32 0, .int .u32 0, .int .u32 0] 30)) = .ok (goInt 3) (w1.alloc (.cells #[.int .u32 d0, .int .u32 d1, .int .u32 d2] 30)) := by (have h0 := run_copy_row (P := Tryd.prog) (w1.alloc (.cells #[.int .u32 0, .int .u32 0, .int .u32 0] 30)) 22 22 3 23 w1.heap.size 0 3 3 ⟨a, 0, none⟩ 3 3 #[.int .u32 0, .int .u32 0, .int .u32 0] 30 [.int .u32 d0, .int .u32 d1, .int .u32 d2] Tryd.underlying22 (by kernel_rfl) (heap_alloc_new _ _) rfl (fun j v hj => by match j, hj with | 0, hj => (simp at hj; subst hj; rw [add_plain]; exact x0) | 1, hj => (simp at hj; subst hj; rw [add_plain]; exact x1) | 2, hj => (simp at hj; subst hj; rw [add_plain]; exact x2)) (by simp) (by simp [Value.oneCell'])); (rw [World.setRow_alloc_new] at h0); exact h0); (have bA : Below w.heap.size w (w1.alloc (.cells #[.int .u32 d0, .int .u32 d1, .int .u32 d2] 30)) := B1.alloc B1.size _)) | (go_at_call 12; refine (h _ bA).mono ?_; rintro e w2 ⟨rfl, B2⟩))
  go_ret
  exact ⟨rfl, bA.trans (B2.mono bA.size)⟩
set_option maxRecDepth 100000 in
set_option maxHeartbeats 4000000 in
theorem i6_3_0 (s : ByteArray) (kind R : Int) (a : Nat) (d0 d1 d2 : Int) (w : World) (G : Ca.Forms w) (c0 : w.cell? ⟨a, 0, none⟩ = some (.int .u32 d0)) (c1 : w.cell? ⟨a, 1, none⟩ = some (.int .u32 d1)) (c2 : w.cell? ⟨a, 2, none⟩ = some (.int .u32 d2)) (he : (3 : Int) = Ca.ar s) (k1 : ¬ kind = 1) (k2 : ¬ kind = 2) : Calls Tryd.prog 6 #[.string s, .int .i64 kind, .slice (some ⟨a, 0, none⟩) 3 3] w fun e w' => e = .returned (.int .u32 0) ∧ Below w.heap.size w w' := by
  have h10 := Ca.arity11 s
  generalize Ca.ar s = A at *
  subst he
  have b3 : (kind == 1) = false := by simpa using k1
  have b4 : (kind == 2) = false := by simpa using k2
  clear k1 k2
  go_enter Tryd.func6, Tryd.ntmps6
  go_wp2_with (first | (go_at_call 10; refine (h10 w G).mono ?_; rintro e w1 ⟨rfl, B1⟩; (have x0 : (w1.alloc (.cells #[.int .u32 0, .int .u32 0, .int .u32 0] 30)).cell? ⟨a, 0, none⟩ = some (.int .u32 d0) := ((B1.alloc B1.size _).cell (p := ⟨a, 0, none⟩) (World.block_lt_of_cell? w ⟨a, 0, none⟩ c0)).trans c0); (have x1 : (w1.alloc (.cells #[.int .u32 0, .int .u32 0, .int .u32 0] 30)).cell? ⟨a, 1, none⟩ = some (.int .u32 d1) := ((B1.alloc B1.size _).cell (p := ⟨a, 1, none⟩) (World.block_lt_of_cell? w ⟨a, 1, none⟩ c1)).trans c1); (have x2 : (w1.alloc (.cells #[.int .u32 0, .int .u32 0, .int .u32 0] 30)).cell? ⟨a, 2, none⟩ = some (.int .u32 d2) := ((B1.alloc B1.size _).cell (p := ⟨a, 2, none⟩) (World.block_lt_of_cell? w ⟨a, 2, none⟩ c2)).trans c2); (have hcp : (Builtin.copy_ #[22, 22] 3 #[.slice (some ⟨w1.heap.size, 0, none⟩) 3 3, .slice (some ⟨a, 0, none⟩) 3 3]).run Tryd.prog (w1.alloc (.cells #[.int .u32 0, .int .u32 0, .int .u32 0] 30)) = .ok (goInt 3) (w1.alloc (.cells #[.int .u32 d0, .int .u32 d1, .int .u32 d2] 30)) := by (have h0 := run_copy_row (P := Tryd.prog) (w1.alloc (.cells #[.int .u32 0, .int .u32 0, .int .u32 0] 30)) 22 22 3 23 w1.heap.size 0 3 3 ⟨a, 0, none⟩ 3 3 #[.int .u32 0, .int .u32 0, .int .u32 0] 30 [.int .u32 d0, .int .u32 d1, .int .u32 d2] Tryd.underlying22 (by kernel_rfl) (heap_alloc_new _ _) rfl (fun j v hj => by match j, hj with | 0, hj => (simp at hj; subst hj; rw [add_plain]; exact x0) | 1, hj => (simp at hj; subst hj; rw [add_plain]; exact x1) | 2, hj => (simp at hj; subst hj; rw [add_plain]; exact x2)) (by simp) (by simp [Value.oneCell'])); (rw [World.setRow_alloc_new] at h0); exact h0); (have bA : Below w.heap.size w (w1.alloc (.cells #[.int .u32 d0, .int .u32 d1, .int .u32 d2] 30)) := B1.alloc B1.size _)))
  go_ret
  exact ⟨rfl, bA⟩
theorem lt_z : (0 : Int) ≤ 0 ∧ (0 : Int) < 4294967296 := ⟨Int.le_refl 0, by decide⟩
theorem both_abs (s : ByteArray) (kind : Int) (n : Nat) (d : Nat → Int) (hd : ∀ i, 0 ≤ d i ∧ d i < 4294967296) (e : s.toList = [97, 98, 115]) (he : (n : Int) = Ca.ar s) (kk : kind = 1 ∨ kind = 2) : ∃ R : Int, (∀ (w : World) (a : Nat), Tk.Own w a n (fun i => .int .u32 (d i)) → Calls Tryd.prog 4 #[.string s, .int .i64 kind, .slice (some ⟨a, 0, none⟩) n n] w fun e w' => e = .returned (.int .u32 R) ∧ Below w.heap.size w w') ∧ (∀ (w : World) (a : Nat), Forms w → Ca.Forms w → Tk.Own w a n (fun i => .int .u32 (d i)) → Calls Tryd.prog 6 #[.string s, .int .i64 kind, .slice (some ⟨a, 0, none⟩) n n] w fun e w' => e = .returned (.int .u32 R) ∧ Below w.heap.size w w') := by
  have hv : Ca.ar s = 1 := by unfold Ca.ar; rw [e]; rfl
  obtain rfl : n = 1 := by omega
  rcases kk with rfl | rfl
  · obtain ⟨R, hs, hi⟩ := abs_w s e (d 0) 0 0 (hd 0).1 (hd 0).2 lt_z.1 lt_z.2 lt_z.1 lt_z.2
    exact ⟨R, fun w a O => s4_go1 s a 1 R w he (by omega) (hs w a 1 rfl (O.cell 0 (by omega)) (fun h => by omega) (fun h => by omega)), fun w a F G O => i6_1_1 s 1 R a (d 0) w G (O.cell 0 (by omega)) he (fun w' b => hi w' (F.below b))⟩
  · obtain ⟨R, hs, hi⟩ := abs_f s e (d 0) 0 0 (hd 0).1 (hd 0).2 lt_z.1 lt_z.2 lt_z.1 lt_z.2
    exact ⟨R, fun w a O => s4_go2 s a 1 R w he (by omega) (hs w a 1 rfl (O.cell 0 (by omega)) (fun h => by omega) (fun h => by omega)), fun w a F G O => i6_1_2 s 2 R a (d 0) w G (O.cell 0 (by omega)) he (fun w' b => hi w' (F.below b))⟩
theorem both_float (s : ByteArray) (kind : Int) (n : Nat) (d : Nat → Int) (hd : ∀ i, 0 ≤ d i ∧ d i < 4294967296) (e : s.toList = [102, 108, 111, 97, 116]) (he : (n : Int) = Ca.ar s) (kk : kind = 1 ∨ kind = 2) : ∃ R : Int, (∀ (w : World) (a : Nat), Tk.Own w a n (fun i => .int .u32 (d i)) → Calls Tryd.prog 4 #[.string s, .int .i64 kind, .slice (some ⟨a, 0, none⟩) n n] w fun e w' => e = .returned (.int .u32 R) ∧ Below w.heap.size w w') ∧ (∀ (w : World) (a : Nat), Forms w → Ca.Forms w → Tk.Own w a n (fun i => .int .u32 (d i)) → Calls Tryd.prog 6 #[.string s, .int .i64 kind, .slice (some ⟨a, 0, none⟩) n n] w fun e w' => e = .returned (.int .u32 R) ∧ Below w.heap.size w w') := by
  have hv : Ca.ar s = 1 := by unfold Ca.ar; rw [e]; rfl
  obtain rfl : n = 1 := by omega
  rcases kk with rfl | rfl
  · obtain ⟨R, hs, hi⟩ := float_w s e (d 0) 0 0 (hd 0).1 (hd 0).2 lt_z.1 lt_z.2 lt_z.1 lt_z.2
    exact ⟨R, fun w a O => s4_go1 s a 1 R w he (by omega) (hs w a 1 rfl (O.cell 0 (by omega)) (fun h => by omega) (fun h => by omega)), fun w a F G O => i6_1_1 s 1 R a (d 0) w G (O.cell 0 (by omega)) he (fun w' b => hi w' (F.below b))⟩
  · obtain ⟨R, hs, hi⟩ := float_f s e (d 0) 0 0 (hd 0).1 (hd 0).2 lt_z.1 lt_z.2 lt_z.1 lt_z.2
    exact ⟨R, fun w a O => s4_go2 s a 1 R w he (by omega) (hs w a 1 rfl (O.cell 0 (by omega)) (fun h => by omega) (fun h => by omega)), fun w a F G O => i6_1_2 s 2 R a (d 0) w G (O.cell 0 (by omega)) he (fun w' b => hi w' (F.below b))⟩
theorem both_fma (s : ByteArray) (kind : Int) (n : Nat) (d : Nat → Int) (hd : ∀ i, 0 ≤ d i ∧ d i < 4294967296) (e : s.toList = [102, 109, 97]) (he : (n : Int) = Ca.ar s) (kk : kind = 1 ∨ kind = 2) : ∃ R : Int, (∀ (w : World) (a : Nat), Tk.Own w a n (fun i => .int .u32 (d i)) → Calls Tryd.prog 4 #[.string s, .int .i64 kind, .slice (some ⟨a, 0, none⟩) n n] w fun e w' => e = .returned (.int .u32 R) ∧ Below w.heap.size w w') ∧ (∀ (w : World) (a : Nat), Forms w → Ca.Forms w → Tk.Own w a n (fun i => .int .u32 (d i)) → Calls Tryd.prog 6 #[.string s, .int .i64 kind, .slice (some ⟨a, 0, none⟩) n n] w fun e w' => e = .returned (.int .u32 R) ∧ Below w.heap.size w w') := by
  have hv : Ca.ar s = 3 := by unfold Ca.ar; rw [e]; rfl
  obtain rfl : n = 3 := by omega
  rcases kk with rfl | rfl
  · obtain ⟨R, hs, hi⟩ := fma_w s e (d 0) (d 1) (d 2) (hd 0).1 (hd 0).2 (hd 1).1 (hd 1).2 (hd 2).1 (hd 2).2
    exact ⟨R, fun w a O => s4_go1 s a 3 R w he (by omega) (hs w a 3 rfl (O.cell 0 (by omega)) (fun _ => O.cell 1 (by omega)) (fun _ => O.cell 2 (by omega))), fun w a F G O => i6_3_1 s 1 R a (d 0) (d 1) (d 2) w G (O.cell 0 (by omega)) (O.cell 1 (by omega)) (O.cell 2 (by omega)) he (fun w' b => hi w' (F.below b))⟩
  · obtain ⟨R, hs, hi⟩ := fma_f s e (d 0) (d 1) (d 2) (hd 0).1 (hd 0).2 (hd 1).1 (hd 1).2 (hd 2).1 (hd 2).2
    exact ⟨R, fun w a O => s4_go2 s a 3 R w he (by omega) (hs w a 3 rfl (O.cell 0 (by omega)) (fun _ => O.cell 1 (by omega)) (fun _ => O.cell 2 (by omega))), fun w a F G O => i6_3_2 s 2 R a (d 0) (d 1) (d 2) w G (O.cell 0 (by omega)) (O.cell 1 (by omega)) (O.cell 2 (by omega)) he (fun w' b => hi w' (F.below b))⟩
theorem both_group (s : ByteArray) (kind : Int) (n : Nat) (d : Nat → Int) (hd : ∀ i, 0 ≤ d i ∧ d i < 4294967296) (e : s.toList = [103, 114, 111, 117, 112]) (he : (n : Int) = Ca.ar s) (kk : kind = 1 ∨ kind = 2) : ∃ R : Int, (∀ (w : World) (a : Nat), Tk.Own w a n (fun i => .int .u32 (d i)) → Calls Tryd.prog 4 #[.string s, .int .i64 kind, .slice (some ⟨a, 0, none⟩) n n] w fun e w' => e = .returned (.int .u32 R) ∧ Below w.heap.size w w') ∧ (∀ (w : World) (a : Nat), Forms w → Ca.Forms w → Tk.Own w a n (fun i => .int .u32 (d i)) → Calls Tryd.prog 6 #[.string s, .int .i64 kind, .slice (some ⟨a, 0, none⟩) n n] w fun e w' => e = .returned (.int .u32 R) ∧ Below w.heap.size w w') := by
  have hv : Ca.ar s = 0 := by unfold Ca.ar; rw [e]; rfl
  obtain rfl : n = 0 := by omega
  rcases kk with rfl | rfl
  · exact ⟨0, fun w a _ => s4_zero s 1 a w he (by omega), fun w a F G _ => i6_0_1 s 1 0 a w G he (fun w' b => none_w s (by rw [e]; rfl) (by rw [e]; rfl) (by rw [e]; rfl) (by rw [e]; rfl) (by rw [e]; rfl) (by rw [e]; rfl) (by rw [e]; rfl) 0 0 0 lt_z.1 lt_z.2 lt_z.1 lt_z.2 lt_z.1 lt_z.2 w' (F.below b))⟩
  · exact ⟨0, fun w a _ => s4_zero s 2 a w he (by omega), fun w a F G _ => i6_0_2 s 2 0 a w G he (fun w' b => none_f s (by rw [e]; rfl) (by rw [e]; rfl) (by rw [e]; rfl) (by rw [e]; rfl) (by rw [e]; rfl) (by rw [e]; rfl) (by rw [e]; rfl) 0 0 0 lt_z.1 lt_z.2 lt_z.1 lt_z.2 lt_z.1 lt_z.2 w' (F.below b))⟩
theorem both_int (s : ByteArray) (kind : Int) (n : Nat) (d : Nat → Int) (hd : ∀ i, 0 ≤ d i ∧ d i < 4294967296) (e : s.toList = [105, 110, 116]) (he : (n : Int) = Ca.ar s) (kk : kind = 1 ∨ kind = 2) : ∃ R : Int, (∀ (w : World) (a : Nat), Tk.Own w a n (fun i => .int .u32 (d i)) → Calls Tryd.prog 4 #[.string s, .int .i64 kind, .slice (some ⟨a, 0, none⟩) n n] w fun e w' => e = .returned (.int .u32 R) ∧ Below w.heap.size w w') ∧ (∀ (w : World) (a : Nat), Forms w → Ca.Forms w → Tk.Own w a n (fun i => .int .u32 (d i)) → Calls Tryd.prog 6 #[.string s, .int .i64 kind, .slice (some ⟨a, 0, none⟩) n n] w fun e w' => e = .returned (.int .u32 R) ∧ Below w.heap.size w w') := by
  have hv : Ca.ar s = 1 := by unfold Ca.ar; rw [e]; rfl
  obtain rfl : n = 1 := by omega
  rcases kk with rfl | rfl
  · obtain ⟨R, hs, hi⟩ := int_w s e (d 0) 0 0 (hd 0).1 (hd 0).2 lt_z.1 lt_z.2 lt_z.1 lt_z.2
    exact ⟨R, fun w a O => s4_go1 s a 1 R w he (by omega) (hs w a 1 rfl (O.cell 0 (by omega)) (fun h => by omega) (fun h => by omega)), fun w a F G O => i6_1_1 s 1 R a (d 0) w G (O.cell 0 (by omega)) he (fun w' b => hi w' (F.below b))⟩
  · obtain ⟨R, hs, hi⟩ := int_f s e (d 0) 0 0 (hd 0).1 (hd 0).2 lt_z.1 lt_z.2 lt_z.1 lt_z.2
    exact ⟨R, fun w a O => s4_go2 s a 1 R w he (by omega) (hs w a 1 rfl (O.cell 0 (by omega)) (fun h => by omega) (fun h => by omega)), fun w a F G O => i6_1_2 s 2 R a (d 0) w G (O.cell 0 (by omega)) he (fun w' b => hi w' (F.below b))⟩
theorem both_local (s : ByteArray) (kind : Int) (n : Nat) (d : Nat → Int) (hd : ∀ i, 0 ≤ d i ∧ d i < 4294967296) (e : s.toList = [108, 111, 99, 97, 108]) (he : (n : Int) = Ca.ar s) (kk : kind = 1 ∨ kind = 2) : ∃ R : Int, (∀ (w : World) (a : Nat), Tk.Own w a n (fun i => .int .u32 (d i)) → Calls Tryd.prog 4 #[.string s, .int .i64 kind, .slice (some ⟨a, 0, none⟩) n n] w fun e w' => e = .returned (.int .u32 R) ∧ Below w.heap.size w w') ∧ (∀ (w : World) (a : Nat), Forms w → Ca.Forms w → Tk.Own w a n (fun i => .int .u32 (d i)) → Calls Tryd.prog 6 #[.string s, .int .i64 kind, .slice (some ⟨a, 0, none⟩) n n] w fun e w' => e = .returned (.int .u32 R) ∧ Below w.heap.size w w') := by
  have hv : Ca.ar s = 0 := by unfold Ca.ar; rw [e]; rfl
  obtain rfl : n = 0 := by omega
  rcases kk with rfl | rfl
  · exact ⟨0, fun w a _ => s4_zero s 1 a w he (by omega), fun w a F G _ => i6_0_1 s 1 0 a w G he (fun w' b => none_w s (by rw [e]; rfl) (by rw [e]; rfl) (by rw [e]; rfl) (by rw [e]; rfl) (by rw [e]; rfl) (by rw [e]; rfl) (by rw [e]; rfl) 0 0 0 lt_z.1 lt_z.2 lt_z.1 lt_z.2 lt_z.1 lt_z.2 w' (F.below b))⟩
  · exact ⟨0, fun w a _ => s4_zero s 2 a w he (by omega), fun w a F G _ => i6_0_2 s 2 0 a w G he (fun w' b => none_f s (by rw [e]; rfl) (by rw [e]; rfl) (by rw [e]; rfl) (by rw [e]; rfl) (by rw [e]; rfl) (by rw [e]; rfl) (by rw [e]; rfl) 0 0 0 lt_z.1 lt_z.2 lt_z.1 lt_z.2 lt_z.1 lt_z.2 w' (F.below b))⟩
theorem both_max (s : ByteArray) (kind : Int) (n : Nat) (d : Nat → Int) (hd : ∀ i, 0 ≤ d i ∧ d i < 4294967296) (e : s.toList = [109, 97, 120]) (he : (n : Int) = Ca.ar s) (kk : kind = 1 ∨ kind = 2) : ∃ R : Int, (∀ (w : World) (a : Nat), Tk.Own w a n (fun i => .int .u32 (d i)) → Calls Tryd.prog 4 #[.string s, .int .i64 kind, .slice (some ⟨a, 0, none⟩) n n] w fun e w' => e = .returned (.int .u32 R) ∧ Below w.heap.size w w') ∧ (∀ (w : World) (a : Nat), Forms w → Ca.Forms w → Tk.Own w a n (fun i => .int .u32 (d i)) → Calls Tryd.prog 6 #[.string s, .int .i64 kind, .slice (some ⟨a, 0, none⟩) n n] w fun e w' => e = .returned (.int .u32 R) ∧ Below w.heap.size w w') := by
  have hv : Ca.ar s = 2 := by unfold Ca.ar; rw [e]; rfl
  obtain rfl : n = 2 := by omega
  rcases kk with rfl | rfl
  · obtain ⟨R, hs, hi⟩ := max_w s e (d 0) (d 1) 0 (hd 0).1 (hd 0).2 (hd 1).1 (hd 1).2 lt_z.1 lt_z.2
    exact ⟨R, fun w a O => s4_go1 s a 2 R w he (by omega) (hs w a 2 rfl (O.cell 0 (by omega)) (fun _ => O.cell 1 (by omega)) (fun h => by omega)), fun w a F G O => i6_2_1 s 1 R a (d 0) (d 1) w G (O.cell 0 (by omega)) (O.cell 1 (by omega)) he (fun w' b => hi w' (F.below b))⟩
  · obtain ⟨R, hs, hi⟩ := max_f s e (d 0) (d 1) 0 (hd 0).1 (hd 0).2 (hd 1).1 (hd 1).2 lt_z.1 lt_z.2
    exact ⟨R, fun w a O => s4_go2 s a 2 R w he (by omega) (hs w a 2 rfl (O.cell 0 (by omega)) (fun _ => O.cell 1 (by omega)) (fun h => by omega)), fun w a F G O => i6_2_2 s 2 R a (d 0) (d 1) w G (O.cell 0 (by omega)) (O.cell 1 (by omega)) he (fun w' b => hi w' (F.below b))⟩
theorem both_min (s : ByteArray) (kind : Int) (n : Nat) (d : Nat → Int) (hd : ∀ i, 0 ≤ d i ∧ d i < 4294967296) (e : s.toList = [109, 105, 110]) (he : (n : Int) = Ca.ar s) (kk : kind = 1 ∨ kind = 2) : ∃ R : Int, (∀ (w : World) (a : Nat), Tk.Own w a n (fun i => .int .u32 (d i)) → Calls Tryd.prog 4 #[.string s, .int .i64 kind, .slice (some ⟨a, 0, none⟩) n n] w fun e w' => e = .returned (.int .u32 R) ∧ Below w.heap.size w w') ∧ (∀ (w : World) (a : Nat), Forms w → Ca.Forms w → Tk.Own w a n (fun i => .int .u32 (d i)) → Calls Tryd.prog 6 #[.string s, .int .i64 kind, .slice (some ⟨a, 0, none⟩) n n] w fun e w' => e = .returned (.int .u32 R) ∧ Below w.heap.size w w') := by
  have hv : Ca.ar s = 2 := by unfold Ca.ar; rw [e]; rfl
  obtain rfl : n = 2 := by omega
  rcases kk with rfl | rfl
  · obtain ⟨R, hs, hi⟩ := min_w s e (d 0) (d 1) 0 (hd 0).1 (hd 0).2 (hd 1).1 (hd 1).2 lt_z.1 lt_z.2
    exact ⟨R, fun w a O => s4_go1 s a 2 R w he (by omega) (hs w a 2 rfl (O.cell 0 (by omega)) (fun _ => O.cell 1 (by omega)) (fun h => by omega)), fun w a F G O => i6_2_1 s 1 R a (d 0) (d 1) w G (O.cell 0 (by omega)) (O.cell 1 (by omega)) he (fun w' b => hi w' (F.below b))⟩
  · obtain ⟨R, hs, hi⟩ := min_f s e (d 0) (d 1) 0 (hd 0).1 (hd 0).2 (hd 1).1 (hd 1).2 lt_z.1 lt_z.2
    exact ⟨R, fun w a O => s4_go2 s a 2 R w he (by omega) (hs w a 2 rfl (O.cell 0 (by omega)) (fun _ => O.cell 1 (by omega)) (fun h => by omega)), fun w a F G O => i6_2_2 s 2 R a (d 0) (d 1) w G (O.cell 0 (by omega)) (O.cell 1 (by omega)) he (fun w' b => hi w' (F.below b))⟩
theorem both_size (s : ByteArray) (kind : Int) (n : Nat) (d : Nat → Int) (hd : ∀ i, 0 ≤ d i ∧ d i < 4294967296) (e : s.toList = [115, 105, 122, 101]) (he : (n : Int) = Ca.ar s) (kk : kind = 1 ∨ kind = 2) : ∃ R : Int, (∀ (w : World) (a : Nat), Tk.Own w a n (fun i => .int .u32 (d i)) → Calls Tryd.prog 4 #[.string s, .int .i64 kind, .slice (some ⟨a, 0, none⟩) n n] w fun e w' => e = .returned (.int .u32 R) ∧ Below w.heap.size w w') ∧ (∀ (w : World) (a : Nat), Forms w → Ca.Forms w → Tk.Own w a n (fun i => .int .u32 (d i)) → Calls Tryd.prog 6 #[.string s, .int .i64 kind, .slice (some ⟨a, 0, none⟩) n n] w fun e w' => e = .returned (.int .u32 R) ∧ Below w.heap.size w w') := by
  have hv : Ca.ar s = 0 := by unfold Ca.ar; rw [e]; rfl
  obtain rfl : n = 0 := by omega
  rcases kk with rfl | rfl
  · exact ⟨0, fun w a _ => s4_zero s 1 a w he (by omega), fun w a F G _ => i6_0_1 s 1 0 a w G he (fun w' b => none_w s (by rw [e]; rfl) (by rw [e]; rfl) (by rw [e]; rfl) (by rw [e]; rfl) (by rw [e]; rfl) (by rw [e]; rfl) (by rw [e]; rfl) 0 0 0 lt_z.1 lt_z.2 lt_z.1 lt_z.2 lt_z.1 lt_z.2 w' (F.below b))⟩
  · exact ⟨0, fun w a _ => s4_zero s 2 a w he (by omega), fun w a F G _ => i6_0_2 s 2 0 a w G he (fun w' b => none_f s (by rw [e]; rfl) (by rw [e]; rfl) (by rw [e]; rfl) (by rw [e]; rfl) (by rw [e]; rfl) (by rw [e]; rfl) (by rw [e]; rfl) 0 0 0 lt_z.1 lt_z.2 lt_z.1 lt_z.2 lt_z.1 lt_z.2 w' (F.below b))⟩
theorem both_sqrt (s : ByteArray) (kind : Int) (n : Nat) (d : Nat → Int) (hd : ∀ i, 0 ≤ d i ∧ d i < 4294967296) (e : s.toList = [115, 113, 114, 116]) (he : (n : Int) = Ca.ar s) (kk : kind = 1 ∨ kind = 2) : ∃ R : Int, (∀ (w : World) (a : Nat), Tk.Own w a n (fun i => .int .u32 (d i)) → Calls Tryd.prog 4 #[.string s, .int .i64 kind, .slice (some ⟨a, 0, none⟩) n n] w fun e w' => e = .returned (.int .u32 R) ∧ Below w.heap.size w w') ∧ (∀ (w : World) (a : Nat), Forms w → Ca.Forms w → Tk.Own w a n (fun i => .int .u32 (d i)) → Calls Tryd.prog 6 #[.string s, .int .i64 kind, .slice (some ⟨a, 0, none⟩) n n] w fun e w' => e = .returned (.int .u32 R) ∧ Below w.heap.size w w') := by
  have hv : Ca.ar s = 1 := by unfold Ca.ar; rw [e]; rfl
  obtain rfl : n = 1 := by omega
  rcases kk with rfl | rfl
  · obtain ⟨R, hs, hi⟩ := sqrt_w s e (d 0) 0 0 (hd 0).1 (hd 0).2 lt_z.1 lt_z.2 lt_z.1 lt_z.2
    exact ⟨R, fun w a O => s4_go1 s a 1 R w he (by omega) (hs w a 1 rfl (O.cell 0 (by omega)) (fun h => by omega) (fun h => by omega)), fun w a F G O => i6_1_1 s 1 R a (d 0) w G (O.cell 0 (by omega)) he (fun w' b => hi w' (F.below b))⟩
  · obtain ⟨R, hs, hi⟩ := sqrt_f s e (d 0) 0 0 (hd 0).1 (hd 0).2 lt_z.1 lt_z.2 lt_z.1 lt_z.2
    exact ⟨R, fun w a O => s4_go2 s a 1 R w he (by omega) (hs w a 1 rfl (O.cell 0 (by omega)) (fun h => by omega) (fun h => by omega)), fun w a F G O => i6_1_2 s 2 R a (d 0) w G (O.cell 0 (by omega)) he (fun w' b => hi w' (F.below b))⟩
theorem both_tid (s : ByteArray) (kind : Int) (n : Nat) (d : Nat → Int) (hd : ∀ i, 0 ≤ d i ∧ d i < 4294967296) (e : s.toList = [116, 105, 100]) (he : (n : Int) = Ca.ar s) (kk : kind = 1 ∨ kind = 2) : ∃ R : Int, (∀ (w : World) (a : Nat), Tk.Own w a n (fun i => .int .u32 (d i)) → Calls Tryd.prog 4 #[.string s, .int .i64 kind, .slice (some ⟨a, 0, none⟩) n n] w fun e w' => e = .returned (.int .u32 R) ∧ Below w.heap.size w w') ∧ (∀ (w : World) (a : Nat), Forms w → Ca.Forms w → Tk.Own w a n (fun i => .int .u32 (d i)) → Calls Tryd.prog 6 #[.string s, .int .i64 kind, .slice (some ⟨a, 0, none⟩) n n] w fun e w' => e = .returned (.int .u32 R) ∧ Below w.heap.size w w') := by
  have hv : Ca.ar s = 0 := by unfold Ca.ar; rw [e]; rfl
  obtain rfl : n = 0 := by omega
  rcases kk with rfl | rfl
  · exact ⟨0, fun w a _ => s4_zero s 1 a w he (by omega), fun w a F G _ => i6_0_1 s 1 0 a w G he (fun w' b => none_w s (by rw [e]; rfl) (by rw [e]; rfl) (by rw [e]; rfl) (by rw [e]; rfl) (by rw [e]; rfl) (by rw [e]; rfl) (by rw [e]; rfl) 0 0 0 lt_z.1 lt_z.2 lt_z.1 lt_z.2 lt_z.1 lt_z.2 w' (F.below b))⟩
  · exact ⟨0, fun w a _ => s4_zero s 2 a w he (by omega), fun w a F G _ => i6_0_2 s 2 0 a w G he (fun w' b => none_f s (by rw [e]; rfl) (by rw [e]; rfl) (by rw [e]; rfl) (by rw [e]; rfl) (by rw [e]; rfl) (by rw [e]; rfl) (by rw [e]; rfl) 0 0 0 lt_z.1 lt_z.2 lt_z.1 lt_z.2 lt_z.1 lt_z.2 w' (F.below b))⟩
theorem both (s : ByteArray) (kind : Int) (n : Nat) (d : Nat → Int) (hd : ∀ i, 0 ≤ d i ∧ d i < 4294967296) : ∃ R : Int, (∀ (w : World) (a : Nat), Tk.Own w a n (fun i => .int .u32 (d i)) → Calls Tryd.prog 4 #[.string s, .int .i64 kind, .slice (some ⟨a, 0, none⟩) n n] w fun e w' => e = .returned (.int .u32 R) ∧ Below w.heap.size w w') ∧ (∀ (w : World) (a : Nat), Forms w → Ca.Forms w → Tk.Own w a n (fun i => .int .u32 (d i)) → Calls Tryd.prog 6 #[.string s, .int .i64 kind, .slice (some ⟨a, 0, none⟩) n n] w fun e w' => e = .returned (.int .u32 R) ∧ Below w.heap.size w w') := by
  by_cases he : (n : Int) = Ca.ar s
  case neg => exact ⟨0, fun w a _ => s4_ne s kind a n w he, fun w a _ G _ => i6_ne s kind a n w G he⟩
  have hle : Ca.ar s ≤ 3 := by unfold Ca.ar; (repeat' split) <;> omega
  by_cases kk : kind = 1 ∨ kind = 2
  case neg =>
    have k1 : ¬ kind = 1 := fun h => kk (Or.inl h)
    have k2 : ¬ kind = 2 := fun h => kk (Or.inr h)
    rcases (show n = 0 ∨ n = 1 ∨ n = 2 ∨ n = 3 by omega) with rfl | rfl | rfl | rfl
    · exact ⟨0, fun w a _ => s4_kind s kind a 0 w he k1 k2, fun w a _ G O => i6_0_0 s kind 0 a w G he k1 k2⟩
    · exact ⟨0, fun w a _ => s4_kind s kind a 1 w he k1 k2, fun w a _ G O => i6_1_0 s kind 0 a (d 0) w G (O.cell 0 (by omega)) he k1 k2⟩
    · exact ⟨0, fun w a _ => s4_kind s kind a 2 w he k1 k2, fun w a _ G O => i6_2_0 s kind 0 a (d 0) (d 1) w G (O.cell 0 (by omega)) (O.cell 1 (by omega)) he k1 k2⟩
    · exact ⟨0, fun w a _ => s4_kind s kind a 3 w he k1 k2, fun w a _ G O => i6_3_0 s kind 0 a (d 0) (d 1) (d 2) w G (O.cell 0 (by omega)) (O.cell 1 (by omega)) (O.cell 2 (by omega)) he k1 k2⟩
  by_cases e0 : s.toList = [97, 98, 115]
  · exact both_abs s kind n d hd e0 he kk
  by_cases e1 : s.toList = [102, 108, 111, 97, 116]
  · exact both_float s kind n d hd e1 he kk
  by_cases e2 : s.toList = [102, 109, 97]
  · exact both_fma s kind n d hd e2 he kk
  by_cases e3 : s.toList = [103, 114, 111, 117, 112]
  · exact both_group s kind n d hd e3 he kk
  by_cases e4 : s.toList = [105, 110, 116]
  · exact both_int s kind n d hd e4 he kk
  by_cases e5 : s.toList = [108, 111, 99, 97, 108]
  · exact both_local s kind n d hd e5 he kk
  by_cases e6 : s.toList = [109, 97, 120]
  · exact both_max s kind n d hd e6 he kk
  by_cases e7 : s.toList = [109, 105, 110]
  · exact both_min s kind n d hd e7 he kk
  by_cases e8 : s.toList = [115, 105, 122, 101]
  · exact both_size s kind n d hd e8 he kk
  by_cases e9 : s.toList = [115, 113, 114, 116]
  · exact both_sqrt s kind n d hd e9 he kk
  by_cases e10 : s.toList = [116, 105, 100]
  · exact both_tid s kind n d hd e10 he kk
  exfalso
  have : Ca.ar s = -1 := by unfold Ca.ar; rw [if_neg e0, if_neg e1, if_neg e2, if_neg e3, if_neg e4, if_neg e5, if_neg e6, if_neg e7, if_neg e8, if_neg e9, if_neg e10]
  omega
end Go.Proofs.YtoloenkcfpfgcaaDoor
