/- The model's FuseWords where a product is rounded, alone or with a third word. Both sides' FuseWords answer alike (chapter 1's and part 7's text at this seat). -/
import Derived.Test.YtoloenkcfpfgcaaDoorFuseS
import Derived.WalkSmall
namespace Go.Proofs.YtoloenkcfpfgcaaDoor.fnExactFuseWords
open Go.ChangeShapes Go.WideShapes Go.ChangeAt Go.RowKit
set_option linter.unusedVariables false
section
variable (a b c mode x y z : Int) (SA SB SC : Bool) (xb : 0 ≤ x ∧ x ≤ 3) (yb : 0 ≤ y ∧ y ≤ 3) (zb : 0 ≤ z ∧ z ≤ 3) (TA : Tests a x SA) (TB : Tests b y SB) (TC : Tests c z SC)
include xb yb zb TA TB TC in
set_option maxHeartbeats 4000000 in
theorem s_prod (w : World) (m n e k : Int) (pA : Hid (∀ v : World, Calls Tryd.prog 30 #[.int .u32 a] v fun e' w' => e' = .returned (.tuple #[.int .i64 m, .int .i64 e]) ∧ w' = v)) (pB : Hid (∀ v : World, Calls Tryd.prog 30 #[.int .u32 b] v fun e' w' => e' = .returned (.tuple #[.int .i64 n, .int .i64 k]) ∧ w' = v)) (X E R : Int) (m0 : ¬ m = 0) (n0 : ¬ n = 0) (hX : m * n = X) (X0 : -281474976710656 < X) (X1 : X < 281474976710656) (hE : e + k = E) (e0 : -149 ≤ e) (e1 : e ≤ 105) (k0 : -149 ≤ k) (k1 : k ≤ 105) (r0 : 0 ≤ R) (r1 : R < 4294967296)
    (HZ : Hid (∀ v : World, Calls Tryd.prog 34 #[.agg #[.int .i64 X, .bool false, .slice none 0 0]] v fun e w' => e = .returned (.bool false) ∧ Below v.heap.size v w'))
    (HT : Hid (∀ v : World, Calls Tryd.prog 35 #[.agg #[.int .i64 X, .bool false, .slice none 0 0, .int .i64 1, .bool false, .slice none 0 0, .int .i64 E], .agg #[.int .i64 24, .int .i64 (-149), .int .i64 104], .int .i64 mode] v fun e w' => e = .returned (.int .i64 R) ∧ Below v.heap.size v w')) (hc : x = 1 ∧ y = 1 ∧ z = 0) : Calls Tryd.prog 15 #[.int .u32 a, .int .u32 b, .int .u32 c, .int .i64 mode] w fun e w' => e = .returned (.int .u32 R) ∧ Below w.heap.size w w' := by
  have nA : Hid (∀ v : World, Calls Tryd.prog 26 #[.int .u32 a] v fun e w' => e = .returned (.bool SA) ∧ w' = v) := TA.neg
  have qA : Hid (∀ v : World, Calls Tryd.prog 13 #[.int .u32 a] v fun e w' => e = .returned (.bool (decide (x = 3))) ∧ w' = v) := TA.nan
  have iA : Hid (∀ v : World, Calls Tryd.prog 28 #[.int .u32 a] v fun e w' => e = .returned (.bool (decide (x = 2))) ∧ w' = v) := TA.inf
  have zA : Hid (∀ v : World, Calls Tryd.prog 27 #[.int .u32 a] v fun e w' => e = .returned (.bool (decide (x = 0))) ∧ w' = v) := TA.nil
  have nB : Hid (∀ v : World, Calls Tryd.prog 26 #[.int .u32 b] v fun e w' => e = .returned (.bool SB) ∧ w' = v) := TB.neg
  have qB : Hid (∀ v : World, Calls Tryd.prog 13 #[.int .u32 b] v fun e w' => e = .returned (.bool (decide (y = 3))) ∧ w' = v) := TB.nan
  have iB : Hid (∀ v : World, Calls Tryd.prog 28 #[.int .u32 b] v fun e w' => e = .returned (.bool (decide (y = 2))) ∧ w' = v) := TB.inf
  have zB : Hid (∀ v : World, Calls Tryd.prog 27 #[.int .u32 b] v fun e w' => e = .returned (.bool (decide (y = 0))) ∧ w' = v) := TB.nil
  have nC : Hid (∀ v : World, Calls Tryd.prog 26 #[.int .u32 c] v fun e w' => e = .returned (.bool SC) ∧ w' = v) := TC.neg
  have qC : Hid (∀ v : World, Calls Tryd.prog 13 #[.int .u32 c] v fun e w' => e = .returned (.bool (decide (z = 3))) ∧ w' = v) := TC.nan
  have iC : Hid (∀ v : World, Calls Tryd.prog 28 #[.int .u32 c] v fun e w' => e = .returned (.bool (decide (z = 2))) ∧ w' = v) := TC.inf
  have zC : Hid (∀ v : World, Calls Tryd.prog 27 #[.int .u32 c] v fun e w' => e = .returned (.bool (decide (z = 0))) ∧ w' = v) := TC.nil
  clear TA TB TC
  have m1 : (m == 0) = false := by simpa using m0
  have n1 : (n == 0) = false := by simpa using n0
  clear m0 n0
  have hwR : IntKind.u32.wrap R = R := by rw [IntKind.wrap_u32]; exact Int.emod_eq_of_lt r0 r1
  all_goals rcases (by omega : x = 0 ∨ x = 1 ∨ x = 2 ∨ x = 3) with rfl | rfl | rfl | rfl <;> rcases (by omega : y = 0 ∨ y = 1 ∨ y = 2 ∨ y = 3) with rfl | rfl | rfl | rfl <;> try (exfalso; omega)
  all_goals rcases (by omega : z = 0 ∨ z = 1 ∨ z = 2 ∨ z = 3) with rfl | rfl | rfl | rfl <;> try (exfalso; omega)
  all_goals
    simp only [Int.reduceEq, decide_true, decide_false] at qA qB qC iA iB iC zA zB zC
    clear hc
    go_enter Tryd.func15, Tryd.ntmps15
    go_wp2_with (first | (go_at_call 26; (with_reducible show Calls Tryd.prog 26 #[Value.int IntKind.u32 a] _ _); refine ((Hid.out nA) _).mono ?_; rintro e w' ⟨rfl, hw⟩; subst w') | (go_at_call 26; (with_reducible show Calls Tryd.prog 26 #[Value.int IntKind.u32 b] _ _); refine ((Hid.out nB) _).mono ?_; rintro e w' ⟨rfl, hw⟩; subst w') | (go_at_call 26; (with_reducible show Calls Tryd.prog 26 #[Value.int IntKind.u32 c] _ _); refine ((Hid.out nC) _).mono ?_; rintro e w' ⟨rfl, hw⟩; subst w') | (go_at_call 13; (with_reducible show Calls Tryd.prog 13 #[Value.int IntKind.u32 a] _ _); refine ((Hid.out qA) _).mono ?_; rintro e w' ⟨rfl, hw⟩; subst w') | (go_at_call 13; (with_reducible show Calls Tryd.prog 13 #[Value.int IntKind.u32 b] _ _); refine ((Hid.out qB) _).mono ?_; rintro e w' ⟨rfl, hw⟩; subst w') | (go_at_call 13; (with_reducible show Calls Tryd.prog 13 #[Value.int IntKind.u32 c] _ _); refine ((Hid.out qC) _).mono ?_; rintro e w' ⟨rfl, hw⟩; subst w') | (go_at_call 28; (with_reducible show Calls Tryd.prog 28 #[Value.int IntKind.u32 a] _ _); refine ((Hid.out iA) _).mono ?_; rintro e w' ⟨rfl, hw⟩; subst w') | (go_at_call 28; (with_reducible show Calls Tryd.prog 28 #[Value.int IntKind.u32 b] _ _); refine ((Hid.out iB) _).mono ?_; rintro e w' ⟨rfl, hw⟩; subst w') | (go_at_call 28; (with_reducible show Calls Tryd.prog 28 #[Value.int IntKind.u32 c] _ _); refine ((Hid.out iC) _).mono ?_; rintro e w' ⟨rfl, hw⟩; subst w') | (go_at_call 27; (with_reducible show Calls Tryd.prog 27 #[Value.int IntKind.u32 a] _ _); refine ((Hid.out zA) _).mono ?_; rintro e w' ⟨rfl, hw⟩; subst w') | (go_at_call 27; (with_reducible show Calls Tryd.prog 27 #[Value.int IntKind.u32 b] _ _); refine ((Hid.out zB) _).mono ?_; rintro e w' ⟨rfl, hw⟩; subst w') | (go_at_call 27; (with_reducible show Calls Tryd.prog 27 #[Value.int IntKind.u32 c] _ _); refine ((Hid.out zC) _).mono ?_; rintro e w' ⟨rfl, hw⟩; subst w') | (go_at_call 29; refine (sSigned _ _ (by decide) (by decide) _).mono ?_; rintro e w' ⟨rfl, hw⟩; subst w') | (go_at_call 30; (with_reducible show Calls Tryd.prog 30 #[Value.int IntKind.u32 a] _ _); refine ((Hid.out pA) _).mono ?_; rintro e w' ⟨rfl, hw⟩; subst w') | (go_at_call 30; (with_reducible show Calls Tryd.prog 30 #[Value.int IntKind.u32 b] _ _); refine ((Hid.out pB) _).mono ?_; rintro e w' ⟨rfl, hw⟩; subst w') | (go_at_call 32; refine (zExact X E (by omega) (by omega) _).mono ?_; rintro e w1 ⟨rfl, hb1⟩) | (go_at_call 34; refine ((Hid.out HZ) _).mono ?_; rintro e w2 ⟨rfl, hb2⟩; (have P2 := (hb2.block w1.heap.size (by simp)).trans (heap_alloc_new _ _)); obtain ⟨⟨o0, o1, o2, o3, o4, o5, o6⟩, _⟩ := blk7 P2; (have z1 := hb1.size); (have z2 := hb2.size); (try simp at z2)))
    go_region_held3 (fun v => v.cell? ⟨w1.heap.size, 0, none⟩ = some (.int .i64 X) ∧ v.cell? ⟨w1.heap.size, 1, none⟩ = some (.bool false) ∧ v.cell? ⟨w1.heap.size, 2, none⟩ = some (.slice none 0 0) ∧ v.cell? ⟨w1.heap.size, 3, none⟩ = some (.int .i64 1) ∧ v.cell? ⟨w1.heap.size, 4, none⟩ = some (.bool false) ∧ v.cell? ⟨w1.heap.size, 5, none⟩ = some (.slice none 0 0) ∧ v.cell? ⟨w1.heap.size, 6, none⟩ = some (.int .i64 E)) (first | with_reducible exact ⟨o0, o1, o2, o3, o4, o5, o6⟩ | with_reducible exact ⟨t0, t1, t2, t3, t4, t5, t6⟩ | with_reducible exact ⟨u0, u1, u2, u3, u4, u5, u6⟩ | (go_keep; done)) (first | (go_at_call 36; refine (zWord _).mono ?_; rintro e w3 ⟨rfl, hb3⟩; (have hb3' : Below w2.heap.size w2 w3 := ⟨hb3.os, hb3.tape, hb3.output, hb3.size, hb3.block⟩); (have z3 := hb3'.size); (have P3 := (hb3'.block w1.heap.size (by omega)).trans P2); obtain ⟨⟨t0, t1, t2, t3, t4, t5, t6⟩, _⟩ := blk7 P3) | (go_at_call 35; refine ((Hid.out HT) _).mono ?_; rintro e w4 ⟨rfl, hb4⟩; (have P4 := (hb4.block w1.heap.size (by omega)).trans P3); obtain ⟨⟨u0, u1, u2, u3, u4, u5, u6⟩, _⟩ := blk7 P4))
    all_goals go_wp2
    all_goals go_ret
    all_goals exact ⟨by first | rfl | (show Ending.returned (.int .u32 (IntKind.u32.wrap R)) = _; rw [hwR]), by repeat (first | (with_reducible refine Below.trans ?_ (hb4.mono (by first | omega | (simp; try omega)))) | (with_reducible refine Below.trans ?_ (hb3'.mono (by first | omega | (simp; try omega)))) | (with_reducible refine Below.trans ?_ (hb2.mono (by first | omega | (simp; try omega)))) | (with_reducible refine Below.trans ?_ (hb1.mono (by first | omega | (simp; try omega)))) | (with_reducible refine Below.alloc ?_ (by first | omega | (simp; try omega)) _) | (with_reducible exact Below.refl _ _))⟩
include xb yb zb TA TB TC in
set_option maxHeartbeats 4000000 in
theorem s_sum (w : World) (m n e k : Int) (pA : Hid (∀ v : World, Calls Tryd.prog 30 #[.int .u32 a] v fun e' w' => e' = .returned (.tuple #[.int .i64 m, .int .i64 e]) ∧ w' = v)) (pB : Hid (∀ v : World, Calls Tryd.prog 30 #[.int .u32 b] v fun e' w' => e' = .returned (.tuple #[.int .i64 n, .int .i64 k]) ∧ w' = v)) (X E s q F : Int) (m0 : ¬ m = 0) (n0 : ¬ n = 0) (hX : m * n = X) (X0 : -281474976710656 < X) (X1 : X < 281474976710656) (s0 : -16777216 < s) (s1 : s < 16777216) (hE : e + k = E) (e0 : -149 ≤ e) (e1 : e ≤ 105) (k0 : -149 ≤ k) (k1 : k ≤ 105) (pC : Hid (∀ v : World, Calls Tryd.prog 30 #[.int .u32 c] v fun e' w' => e' = .returned (.tuple #[.int .i64 s, .int .i64 q]) ∧ w' = v)) (T : Int)
    (HPl : Hid (∀ v : World, Calls Tryd.prog 33 #[.agg #[.int .i64 X, .bool false, .slice none 0 0, .int .i64 1, .bool false, .slice none 0 0, .int .i64 E], .agg #[.int .i64 s, .bool false, .slice none 0 0, .int .i64 1, .bool false, .slice none 0 0, .int .i64 q]] v fun e w' => ∃ V g pp l c, e = .returned (.agg #[.int .i64 V, .bool g, .slice pp l c, .int .i64 1, .bool false, .slice none 0 0, .int .i64 F]) ∧ Num w' 200 (.agg #[.int .i64 V, .bool g, .slice pp l c]) T ∧ Below v.heap.size v w')) (hT : T ≠ 0) (R : Int) (r0 : 0 ≤ R) (r1 : R < 4294967296)
    (HT : Hid (∀ (v : World) (K : Nat) (VP : Int) (gP : Bool) (pP : Option Addr) (lP cP : Nat), Num v K (.agg #[.int .i64 VP, .bool gP, .slice pP lP cP]) T → 2 ≤ K → K ≤ 9000 → Calls Tryd.prog 35 #[.agg #[.int .i64 VP, .bool gP, .slice pP lP cP, .int .i64 1, .bool false, .slice none 0 0, .int .i64 F], .agg #[.int .i64 24, .int .i64 (-149), .int .i64 104], .int .i64 mode] v fun e w' => e = .returned (.int .i64 R) ∧ Below v.heap.size v w')) (hc : x = 1 ∧ y = 1 ∧ z = 1) : Calls Tryd.prog 15 #[.int .u32 a, .int .u32 b, .int .u32 c, .int .i64 mode] w fun e w' => e = .returned (.int .u32 R) ∧ Below w.heap.size w w' := by
  have nA : Hid (∀ v : World, Calls Tryd.prog 26 #[.int .u32 a] v fun e w' => e = .returned (.bool SA) ∧ w' = v) := TA.neg
  have qA : Hid (∀ v : World, Calls Tryd.prog 13 #[.int .u32 a] v fun e w' => e = .returned (.bool (decide (x = 3))) ∧ w' = v) := TA.nan
  have iA : Hid (∀ v : World, Calls Tryd.prog 28 #[.int .u32 a] v fun e w' => e = .returned (.bool (decide (x = 2))) ∧ w' = v) := TA.inf
  have zA : Hid (∀ v : World, Calls Tryd.prog 27 #[.int .u32 a] v fun e w' => e = .returned (.bool (decide (x = 0))) ∧ w' = v) := TA.nil
  have nB : Hid (∀ v : World, Calls Tryd.prog 26 #[.int .u32 b] v fun e w' => e = .returned (.bool SB) ∧ w' = v) := TB.neg
  have qB : Hid (∀ v : World, Calls Tryd.prog 13 #[.int .u32 b] v fun e w' => e = .returned (.bool (decide (y = 3))) ∧ w' = v) := TB.nan
  have iB : Hid (∀ v : World, Calls Tryd.prog 28 #[.int .u32 b] v fun e w' => e = .returned (.bool (decide (y = 2))) ∧ w' = v) := TB.inf
  have zB : Hid (∀ v : World, Calls Tryd.prog 27 #[.int .u32 b] v fun e w' => e = .returned (.bool (decide (y = 0))) ∧ w' = v) := TB.nil
  have nC : Hid (∀ v : World, Calls Tryd.prog 26 #[.int .u32 c] v fun e w' => e = .returned (.bool SC) ∧ w' = v) := TC.neg
  have qC : Hid (∀ v : World, Calls Tryd.prog 13 #[.int .u32 c] v fun e w' => e = .returned (.bool (decide (z = 3))) ∧ w' = v) := TC.nan
  have iC : Hid (∀ v : World, Calls Tryd.prog 28 #[.int .u32 c] v fun e w' => e = .returned (.bool (decide (z = 2))) ∧ w' = v) := TC.inf
  have zC : Hid (∀ v : World, Calls Tryd.prog 27 #[.int .u32 c] v fun e w' => e = .returned (.bool (decide (z = 0))) ∧ w' = v) := TC.nil
  clear TA TB TC
  have m1 : (m == 0) = false := by simpa using m0
  have n1 : (n == 0) = false := by simpa using n0
  clear m0 n0
  have hwR : IntKind.u32.wrap R = R := by rw [IntKind.wrap_u32]; exact Int.emod_eq_of_lt r0 r1
  all_goals rcases (by omega : x = 0 ∨ x = 1 ∨ x = 2 ∨ x = 3) with rfl | rfl | rfl | rfl <;> rcases (by omega : y = 0 ∨ y = 1 ∨ y = 2 ∨ y = 3) with rfl | rfl | rfl | rfl <;> try (exfalso; omega)
  all_goals rcases (by omega : z = 0 ∨ z = 1 ∨ z = 2 ∨ z = 3) with rfl | rfl | rfl | rfl <;> try (exfalso; omega)
  all_goals
    simp only [Int.reduceEq, decide_false] at qA qB qC iA iB iC zA zB zC
    clear hc
    go_enter Tryd.func15, Tryd.ntmps15
    go_wp2_with (first | (go_at_call 26; (with_reducible show Calls Tryd.prog 26 #[Value.int IntKind.u32 a] _ _); refine ((Hid.out nA) _).mono ?_; rintro e w' ⟨rfl, hw⟩; subst w') | (go_at_call 26; (with_reducible show Calls Tryd.prog 26 #[Value.int IntKind.u32 b] _ _); refine ((Hid.out nB) _).mono ?_; rintro e w' ⟨rfl, hw⟩; subst w') | (go_at_call 26; (with_reducible show Calls Tryd.prog 26 #[Value.int IntKind.u32 c] _ _); refine ((Hid.out nC) _).mono ?_; rintro e w' ⟨rfl, hw⟩; subst w') | (go_at_call 13; (with_reducible show Calls Tryd.prog 13 #[Value.int IntKind.u32 a] _ _); refine ((Hid.out qA) _).mono ?_; rintro e w' ⟨rfl, hw⟩; subst w') | (go_at_call 13; (with_reducible show Calls Tryd.prog 13 #[Value.int IntKind.u32 b] _ _); refine ((Hid.out qB) _).mono ?_; rintro e w' ⟨rfl, hw⟩; subst w') | (go_at_call 13; (with_reducible show Calls Tryd.prog 13 #[Value.int IntKind.u32 c] _ _); refine ((Hid.out qC) _).mono ?_; rintro e w' ⟨rfl, hw⟩; subst w') | (go_at_call 28; (with_reducible show Calls Tryd.prog 28 #[Value.int IntKind.u32 a] _ _); refine ((Hid.out iA) _).mono ?_; rintro e w' ⟨rfl, hw⟩; subst w') | (go_at_call 28; (with_reducible show Calls Tryd.prog 28 #[Value.int IntKind.u32 b] _ _); refine ((Hid.out iB) _).mono ?_; rintro e w' ⟨rfl, hw⟩; subst w') | (go_at_call 28; (with_reducible show Calls Tryd.prog 28 #[Value.int IntKind.u32 c] _ _); refine ((Hid.out iC) _).mono ?_; rintro e w' ⟨rfl, hw⟩; subst w') | (go_at_call 27; (with_reducible show Calls Tryd.prog 27 #[Value.int IntKind.u32 a] _ _); refine ((Hid.out zA) _).mono ?_; rintro e w' ⟨rfl, hw⟩; subst w') | (go_at_call 27; (with_reducible show Calls Tryd.prog 27 #[Value.int IntKind.u32 b] _ _); refine ((Hid.out zB) _).mono ?_; rintro e w' ⟨rfl, hw⟩; subst w') | (go_at_call 27; (with_reducible show Calls Tryd.prog 27 #[Value.int IntKind.u32 c] _ _); refine ((Hid.out zC) _).mono ?_; rintro e w' ⟨rfl, hw⟩; subst w') | (go_at_call 29; refine (sSigned _ _ (by decide) (by decide) _).mono ?_; rintro e w' ⟨rfl, hw⟩; subst w') | (go_at_call 30; (with_reducible show Calls Tryd.prog 30 #[Value.int IntKind.u32 a] _ _); refine ((Hid.out pA) _).mono ?_; rintro e w' ⟨rfl, hw⟩; subst w') | (go_at_call 30; (with_reducible show Calls Tryd.prog 30 #[Value.int IntKind.u32 b] _ _); refine ((Hid.out pB) _).mono ?_; rintro e w' ⟨rfl, hw⟩; subst w') | (go_at_call 30; (with_reducible show Calls Tryd.prog 30 #[Value.int IntKind.u32 c] _ _); refine ((Hid.out pC) _).mono ?_; rintro e w' ⟨rfl, hw⟩; subst w') | (go_at_call 32; refine (zExact X E (by omega) (by omega) _).mono ?_; rintro e w1 ⟨rfl, hb1⟩))
    go_region_with (first | (go_at_call 32; refine (zExact s q (by omega) (by omega) _).mono ?_; rintro e w2 ⟨rfl, hb2⟩; (have hb2' : Below (w1.alloc (.cells #[.int .i64 X, .bool false, .slice none 0 0, .int .i64 1, .bool false, .slice none 0 0, .int .i64 E] 52)).heap.size (w1.alloc (.cells #[.int .i64 X, .bool false, .slice none 0 0, .int .i64 1, .bool false, .slice none 0 0, .int .i64 E] 52)) w2 := ⟨hb2.os, hb2.tape, hb2.output, hb2.size, hb2.block⟩); (have P2 := (hb2'.block w1.heap.size (by simp)).trans (heap_alloc_new _ _)); (have z2 := hb2'.size); (try simp at z2); obtain ⟨⟨o0, o1, o2, o3, o4, o5, o6⟩, _⟩ := blk7 P2) | (go_at_call 33; refine ((Hid.out HPl) _).mono ?_; rintro e w3 ⟨V, g, pp, l, cc, rfl, N3, hb3⟩; (have hb3' : Below w2.heap.size w2 w3 := ⟨hb3.os, hb3.tape, hb3.output, hb3.size, hb3.block⟩); (have P3 := (hb3'.block w1.heap.size (by omega)).trans P2); (have z3 := hb3'.size); obtain ⟨⟨t0, t1, t2, t3, t4, t5, t6⟩, t7, t8, t9, t10, t11, t12, t13⟩ := blk7 P3))
    all_goals
      obtain ⟨W, hW⟩ : ∃ W, W = (((((((w3.setCell ⟨w1.heap.size, 0, none⟩ (.int .i64 V)).setCell ⟨w1.heap.size, 1, none⟩ (.bool g)).setCell ⟨w1.heap.size, 2, none⟩ (.slice pp l cc)).setCell ⟨w1.heap.size, 3, none⟩ (.int .i64 1)).setCell ⟨w1.heap.size, 4, none⟩ (.bool false)).setCell ⟨w1.heap.size, 5, none⟩ (.slice none 0 0)).setCell ⟨w1.heap.size, 6, none⟩ (.int .i64 F)) := ⟨_, rfl⟩
      have NW : Num W 200 (.agg #[.int .i64 V, .bool g, .slice pp l cc]) T := by rw [hW]; exact N3.set7 t1 _ _ _ _ _ _ _
      have PW : W.heap[w1.heap.size]? = some (.cells #[.int .i64 V, .bool g, .slice pp l cc, .int .i64 1, .bool false, .slice none 0 0, .int .i64 F] 52 (0, 0)) := by rw [hW]; exact set7h P3
      have zW : w1.heap.size < W.heap.size := by rw [hW]; simp; omega
      have z1 := hb1.size
      have bW : Below w.heap.size w W := by rw [hW]; repeat (first | (with_reducible refine Below.setCell ?_ (by first | omega | (simp; try omega)) _) | (with_reducible refine Below.trans ?_ (hb3'.mono (by first | omega | (simp; try omega)))) | (with_reducible refine Below.trans ?_ (hb2'.mono (by first | omega | (simp; try omega)))) | (with_reducible refine Below.alloc ?_ (by first | omega | (simp; try omega)) _) | (with_reducible exact hb1))
      rw [← hW]
      clear hW N3 P3 P2 t0 t1 t2 t3 t4 t5 t6 t7 t8 t9 t10 t11 t12 t13 hb3 hb3' hb2 hb2' o0 o1 o2 o3 o4 o5 o6 z2 z3
      have hz85 := num_zero NW
      rw [decide_eq_false hT] at hz85
      obtain ⟨⟨o0, o1, o2, o3, o4, o5, o6⟩, _⟩ := blk7 PW
      go_wp2_with (go_at_call 34; refine hz85.mono ?_; rintro e w6 ⟨rfl, hb6⟩; (have z6 := hb6.size); (have N6 := NW.next hb6); (have P6 := (hb6.block w1.heap.size zW).trans PW); obtain ⟨⟨p0, p1, p2, p3, p4, p5, p6⟩, _⟩ := blk7 P6)
      go_region_held3 (fun v => v.cell? ⟨w1.heap.size, 0, none⟩ = some (.int .i64 V) ∧ v.cell? ⟨w1.heap.size, 1, none⟩ = some (.bool g) ∧ v.cell? ⟨w1.heap.size, 2, none⟩ = some (.slice pp l cc) ∧ v.cell? ⟨w1.heap.size, 3, none⟩ = some (.int .i64 1) ∧ v.cell? ⟨w1.heap.size, 4, none⟩ = some (.bool false) ∧ v.cell? ⟨w1.heap.size, 5, none⟩ = some (.slice none 0 0) ∧ v.cell? ⟨w1.heap.size, 6, none⟩ = some (.int .i64 F)) (first | with_reducible exact ⟨p0, p1, p2, p3, p4, p5, p6⟩ | with_reducible exact ⟨t0, t1, t2, t3, t4, t5, t6⟩ | with_reducible exact ⟨u0, u1, u2, u3, u4, u5, u6⟩ | (go_keep; done)) (first | (go_at_call 36; refine (zWord _).mono ?_; rintro e w7 ⟨rfl, hb7⟩; (have hb7' : Below w6.heap.size w6 w7 := ⟨hb7.os, hb7.tape, hb7.output, hb7.size, hb7.block⟩); (have z7 := hb7'.size); (have N7 := N6.next hb7'); (have P7 := (hb7'.block w1.heap.size (by omega)).trans P6); obtain ⟨⟨t0, t1, t2, t3, t4, t5, t6⟩, _⟩ := blk7 P7) | (go_at_call 35; refine ((Hid.out HT) w7 200 V g pp l cc N7 (by decide) (by decide)).mono ?_; rintro e w8 ⟨rfl, hb8⟩; (have P8 := (hb8.block w1.heap.size (by omega)).trans P7); obtain ⟨⟨u0, u1, u2, u3, u4, u5, u6⟩, _⟩ := blk7 P8))
      all_goals go_wp2
      all_goals go_ret
      all_goals exact ⟨by first | rfl | (show Ending.returned (.int .u32 (IntKind.u32.wrap R)) = _; rw [hwR]), ((bW.trans (hb6.mono bW.size)).trans (hb7'.mono (Nat.le_trans bW.size hb6.size))).trans (hb8.mono (Nat.le_trans bW.size (Nat.le_trans hb6.size hb7'.size)))⟩
include xb yb zb TA TB TC in
set_option maxHeartbeats 4000000 in
theorem s_sum0 (w : World) (m n e k : Int) (pA : Hid (∀ v : World, Calls Tryd.prog 30 #[.int .u32 a] v fun e' w' => e' = .returned (.tuple #[.int .i64 m, .int .i64 e]) ∧ w' = v)) (pB : Hid (∀ v : World, Calls Tryd.prog 30 #[.int .u32 b] v fun e' w' => e' = .returned (.tuple #[.int .i64 n, .int .i64 k]) ∧ w' = v)) (X E s q F : Int) (m0 : ¬ m = 0) (n0 : ¬ n = 0) (hX : m * n = X) (X0 : -281474976710656 < X) (X1 : X < 281474976710656) (s0 : -16777216 < s) (s1 : s < 16777216) (hE : e + k = E) (e0 : -149 ≤ e) (e1 : e ≤ 105) (k0 : -149 ≤ k) (k1 : k ≤ 105) (pC : Hid (∀ v : World, Calls Tryd.prog 30 #[.int .u32 c] v fun e' w' => e' = .returned (.tuple #[.int .i64 s, .int .i64 q]) ∧ w' = v)) (T : Int)
    (HPl : Hid (∀ v : World, Calls Tryd.prog 33 #[.agg #[.int .i64 X, .bool false, .slice none 0 0, .int .i64 1, .bool false, .slice none 0 0, .int .i64 E], .agg #[.int .i64 s, .bool false, .slice none 0 0, .int .i64 1, .bool false, .slice none 0 0, .int .i64 q]] v fun e w' => ∃ V g pp l c, e = .returned (.agg #[.int .i64 V, .bool g, .slice pp l c, .int .i64 1, .bool false, .slice none 0 0, .int .i64 F]) ∧ Num w' 200 (.agg #[.int .i64 V, .bool g, .slice pp l c]) T ∧ Below v.heap.size v w')) (hT : T = 0) (hc : x = 1 ∧ y = 1 ∧ z = 1) : Calls Tryd.prog 15 #[.int .u32 a, .int .u32 b, .int .u32 c, .int .i64 mode] w fun e w' => e = .returned (.int .u32 (sgn_w (decide (mode = 4)) 0)) ∧ Below w.heap.size w w' := by
  have nA : Hid (∀ v : World, Calls Tryd.prog 26 #[.int .u32 a] v fun e w' => e = .returned (.bool SA) ∧ w' = v) := TA.neg
  have qA : Hid (∀ v : World, Calls Tryd.prog 13 #[.int .u32 a] v fun e w' => e = .returned (.bool (decide (x = 3))) ∧ w' = v) := TA.nan
  have iA : Hid (∀ v : World, Calls Tryd.prog 28 #[.int .u32 a] v fun e w' => e = .returned (.bool (decide (x = 2))) ∧ w' = v) := TA.inf
  have zA : Hid (∀ v : World, Calls Tryd.prog 27 #[.int .u32 a] v fun e w' => e = .returned (.bool (decide (x = 0))) ∧ w' = v) := TA.nil
  have nB : Hid (∀ v : World, Calls Tryd.prog 26 #[.int .u32 b] v fun e w' => e = .returned (.bool SB) ∧ w' = v) := TB.neg
  have qB : Hid (∀ v : World, Calls Tryd.prog 13 #[.int .u32 b] v fun e w' => e = .returned (.bool (decide (y = 3))) ∧ w' = v) := TB.nan
  have iB : Hid (∀ v : World, Calls Tryd.prog 28 #[.int .u32 b] v fun e w' => e = .returned (.bool (decide (y = 2))) ∧ w' = v) := TB.inf
  have zB : Hid (∀ v : World, Calls Tryd.prog 27 #[.int .u32 b] v fun e w' => e = .returned (.bool (decide (y = 0))) ∧ w' = v) := TB.nil
  have nC : Hid (∀ v : World, Calls Tryd.prog 26 #[.int .u32 c] v fun e w' => e = .returned (.bool SC) ∧ w' = v) := TC.neg
  have qC : Hid (∀ v : World, Calls Tryd.prog 13 #[.int .u32 c] v fun e w' => e = .returned (.bool (decide (z = 3))) ∧ w' = v) := TC.nan
  have iC : Hid (∀ v : World, Calls Tryd.prog 28 #[.int .u32 c] v fun e w' => e = .returned (.bool (decide (z = 2))) ∧ w' = v) := TC.inf
  have zC : Hid (∀ v : World, Calls Tryd.prog 27 #[.int .u32 c] v fun e w' => e = .returned (.bool (decide (z = 0))) ∧ w' = v) := TC.nil
  clear TA TB TC
  have m1 : (m == 0) = false := by simpa using m0
  have n1 : (n == 0) = false := by simpa using n0
  clear m0 n0
  all_goals rcases (by omega : x = 0 ∨ x = 1 ∨ x = 2 ∨ x = 3) with rfl | rfl | rfl | rfl <;> rcases (by omega : y = 0 ∨ y = 1 ∨ y = 2 ∨ y = 3) with rfl | rfl | rfl | rfl <;> try (exfalso; omega)
  all_goals rcases (by omega : z = 0 ∨ z = 1 ∨ z = 2 ∨ z = 3) with rfl | rfl | rfl | rfl <;> try (exfalso; omega)
  all_goals
    simp only [Int.reduceEq, decide_false] at qA qB qC iA iB iC zA zB zC
    clear hc
    go_enter Tryd.func15, Tryd.ntmps15
    go_wp2_with (first | (go_at_call 26; (with_reducible show Calls Tryd.prog 26 #[Value.int IntKind.u32 a] _ _); refine ((Hid.out nA) _).mono ?_; rintro e w' ⟨rfl, hw⟩; subst w') | (go_at_call 26; (with_reducible show Calls Tryd.prog 26 #[Value.int IntKind.u32 b] _ _); refine ((Hid.out nB) _).mono ?_; rintro e w' ⟨rfl, hw⟩; subst w') | (go_at_call 26; (with_reducible show Calls Tryd.prog 26 #[Value.int IntKind.u32 c] _ _); refine ((Hid.out nC) _).mono ?_; rintro e w' ⟨rfl, hw⟩; subst w') | (go_at_call 13; (with_reducible show Calls Tryd.prog 13 #[Value.int IntKind.u32 a] _ _); refine ((Hid.out qA) _).mono ?_; rintro e w' ⟨rfl, hw⟩; subst w') | (go_at_call 13; (with_reducible show Calls Tryd.prog 13 #[Value.int IntKind.u32 b] _ _); refine ((Hid.out qB) _).mono ?_; rintro e w' ⟨rfl, hw⟩; subst w') | (go_at_call 13; (with_reducible show Calls Tryd.prog 13 #[Value.int IntKind.u32 c] _ _); refine ((Hid.out qC) _).mono ?_; rintro e w' ⟨rfl, hw⟩; subst w') | (go_at_call 28; (with_reducible show Calls Tryd.prog 28 #[Value.int IntKind.u32 a] _ _); refine ((Hid.out iA) _).mono ?_; rintro e w' ⟨rfl, hw⟩; subst w') | (go_at_call 28; (with_reducible show Calls Tryd.prog 28 #[Value.int IntKind.u32 b] _ _); refine ((Hid.out iB) _).mono ?_; rintro e w' ⟨rfl, hw⟩; subst w') | (go_at_call 28; (with_reducible show Calls Tryd.prog 28 #[Value.int IntKind.u32 c] _ _); refine ((Hid.out iC) _).mono ?_; rintro e w' ⟨rfl, hw⟩; subst w') | (go_at_call 27; (with_reducible show Calls Tryd.prog 27 #[Value.int IntKind.u32 a] _ _); refine ((Hid.out zA) _).mono ?_; rintro e w' ⟨rfl, hw⟩; subst w') | (go_at_call 27; (with_reducible show Calls Tryd.prog 27 #[Value.int IntKind.u32 b] _ _); refine ((Hid.out zB) _).mono ?_; rintro e w' ⟨rfl, hw⟩; subst w') | (go_at_call 27; (with_reducible show Calls Tryd.prog 27 #[Value.int IntKind.u32 c] _ _); refine ((Hid.out zC) _).mono ?_; rintro e w' ⟨rfl, hw⟩; subst w') | (go_at_call 29; refine (sSigned _ _ (by decide) (by decide) _).mono ?_; rintro e w' ⟨rfl, hw⟩; subst w') | (go_at_call 30; (with_reducible show Calls Tryd.prog 30 #[Value.int IntKind.u32 a] _ _); refine ((Hid.out pA) _).mono ?_; rintro e w' ⟨rfl, hw⟩; subst w') | (go_at_call 30; (with_reducible show Calls Tryd.prog 30 #[Value.int IntKind.u32 b] _ _); refine ((Hid.out pB) _).mono ?_; rintro e w' ⟨rfl, hw⟩; subst w') | (go_at_call 30; (with_reducible show Calls Tryd.prog 30 #[Value.int IntKind.u32 c] _ _); refine ((Hid.out pC) _).mono ?_; rintro e w' ⟨rfl, hw⟩; subst w') | (go_at_call 32; refine (zExact X E (by omega) (by omega) _).mono ?_; rintro e w1 ⟨rfl, hb1⟩))
    go_region_with (first | (go_at_call 32; refine (zExact s q (by omega) (by omega) _).mono ?_; rintro e w2 ⟨rfl, hb2⟩; (have hb2' : Below (w1.alloc (.cells #[.int .i64 X, .bool false, .slice none 0 0, .int .i64 1, .bool false, .slice none 0 0, .int .i64 E] 52)).heap.size (w1.alloc (.cells #[.int .i64 X, .bool false, .slice none 0 0, .int .i64 1, .bool false, .slice none 0 0, .int .i64 E] 52)) w2 := ⟨hb2.os, hb2.tape, hb2.output, hb2.size, hb2.block⟩); (have P2 := (hb2'.block w1.heap.size (by simp)).trans (heap_alloc_new _ _)); (have z2 := hb2'.size); (try simp at z2); obtain ⟨⟨o0, o1, o2, o3, o4, o5, o6⟩, _⟩ := blk7 P2) | (go_at_call 33; refine ((Hid.out HPl) _).mono ?_; rintro e w3 ⟨V, g, pp, l, cc, rfl, N3, hb3⟩; (have hb3' : Below w2.heap.size w2 w3 := ⟨hb3.os, hb3.tape, hb3.output, hb3.size, hb3.block⟩); (have P3 := (hb3'.block w1.heap.size (by omega)).trans P2); (have z3 := hb3'.size); obtain ⟨⟨t0, t1, t2, t3, t4, t5, t6⟩, t7, t8, t9, t10, t11, t12, t13⟩ := blk7 P3))
    all_goals
      obtain ⟨W, hW⟩ : ∃ W, W = (((((((w3.setCell ⟨w1.heap.size, 0, none⟩ (.int .i64 V)).setCell ⟨w1.heap.size, 1, none⟩ (.bool g)).setCell ⟨w1.heap.size, 2, none⟩ (.slice pp l cc)).setCell ⟨w1.heap.size, 3, none⟩ (.int .i64 1)).setCell ⟨w1.heap.size, 4, none⟩ (.bool false)).setCell ⟨w1.heap.size, 5, none⟩ (.slice none 0 0)).setCell ⟨w1.heap.size, 6, none⟩ (.int .i64 F)) := ⟨_, rfl⟩
      have NW : Num W 200 (.agg #[.int .i64 V, .bool g, .slice pp l cc]) T := by rw [hW]; exact N3.set7 t1 _ _ _ _ _ _ _
      have PW : W.heap[w1.heap.size]? = some (.cells #[.int .i64 V, .bool g, .slice pp l cc, .int .i64 1, .bool false, .slice none 0 0, .int .i64 F] 52 (0, 0)) := by rw [hW]; exact set7h P3
      have zW : w1.heap.size < W.heap.size := by rw [hW]; simp; omega
      have z1 := hb1.size
      have bW : Below w.heap.size w W := by rw [hW]; repeat (first | (with_reducible refine Below.setCell ?_ (by first | omega | (simp; try omega)) _) | (with_reducible refine Below.trans ?_ (hb3'.mono (by first | omega | (simp; try omega)))) | (with_reducible refine Below.trans ?_ (hb2'.mono (by first | omega | (simp; try omega)))) | (with_reducible refine Below.alloc ?_ (by first | omega | (simp; try omega)) _) | (with_reducible exact hb1))
      rw [← hW]
      clear hW N3 P3 P2 t0 t1 t2 t3 t4 t5 t6 t7 t8 t9 t10 t11 t12 t13 hb3 hb3' hb2 hb2' o0 o1 o2 o3 o4 o5 o6 z2 z3
      have hz85 := num_zero NW
      rw [decide_eq_true hT] at hz85
      obtain ⟨⟨o0, o1, o2, o3, o4, o5, o6⟩, _⟩ := blk7 PW
      go_wp2_with (first | (go_at_call 34; refine hz85.mono ?_; rintro e w6 ⟨rfl, hb6⟩) | (go_at_call 31; refine (nil83B false true mode _).mono ?_; rintro e w' ⟨rfl, hw⟩; subst w'))
      go_ret
      exact ⟨rfl, bW.trans (hb6.mono bW.size)⟩
end
end Go.Proofs.YtoloenkcfpfgcaaDoor.fnExactFuseWords
namespace Go.Proofs.YtoloenkcfpfgcaaDoor.fnExactFuseWords
open Go.ChangeShapes Go.WideShapes Go.ChangeAt Go.RowKit
set_option linter.unusedVariables false
/-- Both sides answer alike: one number for each three words and mode. -/
theorem both (a b c mode : Int) (a0 : 0 ≤ a) (a1 : a < 4294967296) (b0 : 0 ≤ b) (b1 : b < 4294967296) (c0 : 0 ≤ c) (c1 : c < 4294967296) (hm : 0 ≤ mode ∧ mode ≤ 4) : ∃ R : Int,
    (∀ w : World, Calls Tryd.prog 15 #[.int .u32 a, .int .u32 b, .int .u32 c, .int .i64 mode] w fun e w' => e = .returned (.int .u32 R) ∧ Below w.heap.size w w') ∧
    (∀ w : World, Forms w → Calls Tryd.prog 22 #[.int .u32 a, .int .u32 b, .int .u32 c, .int .i64 mode] w fun e w' => e = .returned (.int .u32 R) ∧ Below w.heap.size w w') := by
  obtain ⟨x, hx⟩ : ∃ x, kindI (a % 2147483648) = x := ⟨_, rfl⟩
  obtain ⟨y, hy⟩ : ∃ y, kindI (b % 2147483648) = y := ⟨_, rfl⟩
  obtain ⟨z, hz⟩ : ∃ z, kindI (c % 2147483648) = z := ⟨_, rfl⟩
  obtain ⟨SA, hSA⟩ : ∃ s, decide (2147483648 ≤ a) = s := ⟨_, rfl⟩
  obtain ⟨SB, hSB⟩ : ∃ s, decide (2147483648 ≤ b) = s := ⟨_, rfl⟩
  obtain ⟨SC, hSC⟩ : ∃ s, decide (2147483648 ≤ c) = s := ⟨_, rfl⟩
  have xb := kind_bd (a % 2147483648)
  have yb := kind_bd (b % 2147483648)
  have zb := kind_bd (c % 2147483648)
  rw [hx] at xb
  rw [hy] at yb
  rw [hz] at zb
  have TA := tests a x SA a0 a1 hx hSA
  have TB := tests b y SB b0 b1 hy hSB
  have TC := tests c z SC c0 c1 hz hSC
  by_cases h1 : x = 3 ∨ y = 3 ∨ z = 3 ∨ x = 0 ∧ y = 2 ∨ x = 2 ∧ y = 0
  · exact ⟨_, fun w => s_of a b c mode _ hm w (s_nan a b c mode x y z SA SB SC xb yb zb TA TB TC w h1), fun w G => i_nan a b c mode x y z hm a0 a1 b0 b1 c0 c1 hx hy hz w G h1⟩
  by_cases h2 : (x = 2 ∧ (y = 1 ∨ y = 2) ∨ x = 1 ∧ y = 2)
  · by_cases h3 : z = 2
    · by_cases hs : SC = (SA != SB)
      · exact ⟨_, fun w => s_of a b c mode _ hm w (s_infB a b c mode x y z SA SB SC xb yb zb TA TB TC w hs ⟨h2, h3⟩), fun w G => i_infB a b c mode x y z SA SB SC hm a0 a1 b0 b1 c0 c1 hx hy hz hSA hSB hSC w G hs ⟨h2, h3⟩⟩
      · exact ⟨_, fun w => s_of a b c mode _ hm w (s_infC a b c mode x y z SA SB SC xb yb zb TA TB TC w hs ⟨h2, h3⟩), fun w G => i_infC a b c mode x y z SA SB SC hm a0 a1 b0 b1 c0 c1 hx hy hz hSA hSB hSC w G hs ⟨h2, h3⟩⟩
    · have h4 : z = 0 ∨ z = 1 := by omega
      exact ⟨_, fun w => s_of a b c mode _ hm w (s_infA a b c mode x y z SA SB SC xb yb zb TA TB TC w ⟨h2, h4⟩), fun w G => i_infA a b c mode x y z SA SB SC hm a0 a1 b0 b1 c0 c1 hx hy hz hSA hSB hSC w G ⟨h2, h4⟩⟩
  have hxx : x = 0 ∨ x = 1 := by omega
  have hyy : y = 0 ∨ y = 1 := by omega
  by_cases h3 : z = 2
  · exact ⟨_, fun w => s_of a b c mode _ hm w (s_c a b c mode x y z SA SB SC xb yb zb TA TB TC w ⟨hxx, hyy, h3⟩), fun w G => i_c a b c mode x y z SA SB SC hm a0 a1 b0 b1 c0 c1 hx hy hz hSA hSB hSC w G ⟨hxx, hyy, h3⟩⟩
  have hzz : z = 0 ∨ z = 1 := by omega
  have fin : (x = 0 ∨ x = 1) ∧ (y = 0 ∨ y = 1) ∧ (z = 0 ∨ z = 1) := ⟨hxx, hyy, hzz⟩
  have kd : ∀ (u k : Int), 0 ≤ u → u < 4294967296 → kindI (u % 2147483648) = k → (k = 0 ∨ k = 1) → u % 2147483648 < 2139095040 ∧ (k = 0 → exS (u % 2147483648) = 0) ∧ (k = 1 → 0 < exS (u % 2147483648) ∧ 0 < u % 2147483648) := by
    intro u k u0 u1 h hk
    unfold kindI at h
    unfold exS
    refine ⟨?_, fun h0 => ?_, fun h0 => ?_⟩ <;> (repeat' split at h) <;> (repeat' split) <;> omega
  obtain ⟨la, la0, la1⟩ := kd a x a0 a1 hx hxx
  obtain ⟨lb, lb0, lb1⟩ := kd b y b0 b1 hy hyy
  obtain ⟨lc, lc0, lc1⟩ := kd c z c0 c1 hz hzz
  clear kd
  have sbA := exS_bd (a % 2147483648) (by omega)
  have pbA := exP_bd (a % 2147483648) (by omega) (by omega)
  have sbB := exS_bd (b % 2147483648) (by omega)
  have pbB := exP_bd (b % 2147483648) (by omega) (by omega)
  have sbC := exS_bd (c % 2147483648) (by omega)
  have pbC := exP_bd (c % 2147483648) (by omega) (by omega)
  have HE : ∀ v : World, Forms v → Calls Tryd.prog 53 #[.int .u32 c, .int .i64 0] v fun e w' => e = .returned (.agg #[.bool SC, .int .u64 (exS (c % 2147483648)), .int .i64 (exP (c % 2147483648)), .bool false]) ∧ Below v.heap.size v w' := fun v Gv => by
    have h := exactOf_w c c0 c1 v Gv
    rw [hSC] at h
    exact h
  have wb : 0 < c % 2147483648 → ∀ v : World, Forms v → Calls Tryd.prog 55 #[.agg #[.bool SC, .int .u64 (exS (c % 2147483648)), .int .i64 (exP (c % 2147483648)), .bool false], .int .i64 0, .int .i64 mode] v fun e w' => e = .returned (.int .u32 c) ∧ Below v.heap.size v w' := fun h0 v Gv => by
    have h := word_back c mode c0 c1 h0 lc v Gv
    rw [hSC] at h
    exact h
  have pA := fun v : World => sParts_any a a0 a1 v
  have pB := fun v : World => sParts_any b b0 b1 v
  have pC := fun v : World => sParts_any c c0 c1 v
  rw [hSA] at pA
  rw [hSB] at pB
  rw [hSC] at pC
  obtain ⟨S, hS⟩ : ∃ S, exS (a % 2147483648) = S := ⟨_, rfl⟩
  obtain ⟨p, hp⟩ : ∃ E, exP (a % 2147483648) = E := ⟨_, rfl⟩
  obtain ⟨T, hT⟩ : ∃ S, exS (b % 2147483648) = S := ⟨_, rfl⟩
  obtain ⟨q, hq⟩ : ∃ E, exP (b % 2147483648) = E := ⟨_, rfl⟩
  obtain ⟨U, hU⟩ : ∃ S, exS (c % 2147483648) = S := ⟨_, rfl⟩
  obtain ⟨r, hr⟩ : ∃ E, exP (c % 2147483648) = E := ⟨_, rfl⟩
  rw [hS] at sbA la0 la1 pA
  rw [hp] at pbA pA
  rw [hT] at sbB lb0 lb1 pB
  rw [hq] at pbB pB
  rw [hU] at sbC lc0 lc1 pC HE wb
  rw [hr] at pbC pC HE wb
  obtain ⟨s, rfl⟩ := Int.eq_ofNat_of_zero_le sbA.1
  obtain ⟨t, rfl⟩ := Int.eq_ofNat_of_zero_le sbB.1
  obtain ⟨u, rfl⟩ := Int.eq_ofNat_of_zero_le sbC.1
  obtain ⟨g, hg⟩ : ∃ z, s * t = z := ⟨_, rfl⟩
  have g1 : g < 281474976710656 := by
    rw [← hg]
    have h : s * t ≤ 16777215 * 16777215 := Nat.mul_le_mul (by omega) (by omega)
    omega
  have hgI : (s : Int) * (t : Int) = (g : Int) := by rw [← hg]; simp
  have HP : ∀ v : World, Forms v → Calls Tryd.prog 52 #[.int .u32 a, .int .u32 b] v fun e w' => e = .returned (.agg #[.bool (SA != SB), .int .u64 (g : Int), .int .i64 (p + q), .bool false]) ∧ Below v.heap.size v w' := fun v Gv =>
    prod59 a b a0 a1 b0 b1 v Gv _ _ 0 0 _ _ (g : Int) (p + q) SA SB hSA hSB hS hT hp hq sbA.1 sbA.2 sbB.1 sbB.2 pbA.1 pbA.2 pbB.1 pbB.2 hgI (by omega) (by omega) rfl
  have impl := fun (R : Int) (HR : ∀ v : World, Forms v → Calls Tryd.prog 51 #[.agg #[.bool (SA != SB), .int .u64 (g : Int), .int .i64 (p + q), .bool false], .agg #[.bool SC, .int .u64 (u : Int), .int .i64 r, .bool false], .int .i64 mode] v fun e w' => e = .returned (.int .u32 R) ∧ Below v.heap.size v w') (w : World) (G : Forms w) =>
    i_fin a b c mode x y z SA SB SC hm a0 a1 b0 b1 c0 c1 hx hy hz hSA hSB hSC w G R (g : Int) (p + q) (u : Int) r HP HE HR fin
  by_cases hg0 : g = 0
  · have hmn : sgI SA (s : Int) = 0 ∨ ¬ sgI SA (s : Int) = 0 ∧ sgI SB (t : Int) = 0 := by
      rw [hg0] at hg
      rcases Nat.mul_eq_zero.mp hg with h | h
      · left; rw [h]; cases SA <;> simp [sgI]
      · by_cases hh : sgI SA (s : Int) = 0
        · exact Or.inl hh
        · right; refine ⟨hh, ?_⟩; rw [h]; cases SB <;> simp [sgI]
    subst hg0
    rcases hzz with h0 | h0
    · have u0 : u = 0 := by have := lc0 h0; omega
      subst u0
      refine ⟨_, fun w => s_of a b c mode _ hm w (s_nn a b c mode x y z SA SB SC xb yb zb TA TB TC w _ _ _ _ pA pB hmn ⟨hxx, hyy, h0⟩), impl _ (fun v Gv => ?_)⟩
      by_cases hn : (SA != SB) = SC
      · have h := rs_same SC SC false 0 (p + q) 0 r r mode v (sum_nilx SC SC (p + q) 0 r) Gv
        have e : nilB (SA != SB) SC mode = SC := by unfold nilB; rw [hn]; simp
        rw [e, hn]
        exact h
      · have hn2 : ((SA != SB) == SC) = false := by cases h : ((SA != SB) == SC); rfl; exact absurd (eq_of_beq h) hn
        have h := rs_diff (SA != SB) SC SC false 0 (p + q) 0 r r mode v hn2 (sum_nilx (SA != SB) SC (p + q) 0 r) Gv
        have e : nilB (SA != SB) SC mode = decide (mode = 4) := by unfold nilB; rw [hn2]; rfl
        rw [e]
        exact h
    · have u0 := lc1 h0
      refine ⟨_, fun w => s_of a b c mode _ hm w (s_nc a b c mode x y z SA SB SC xb yb zb TA TB TC w _ _ _ _ pA pB hmn ⟨hxx, hyy, h0⟩), impl _ (fun v Gv => ?_)⟩
      exact rs_num (SA != SB) SC SC false 0 (p + q) (u : Int) r (u : Int) r mode c v u0.1 (sum_nilx (SA != SB) SC (p + q) (u : Int) r) (wb u0.2) Gv
  · have s0 : 0 < s := by rcases Nat.eq_zero_or_pos s with h | h; exfalso; apply hg0; rw [← hg, h, Nat.zero_mul]; exact h
    have t0 : 0 < t := by rcases Nat.eq_zero_or_pos t with h | h; exfalso; apply hg0; rw [← hg, h, Nat.mul_zero]; exact h
    have x1 : x = 1 := by rcases hxx with h | h; have := la0 h; omega; exact h
    have y1 : y = 1 := by rcases hyy with h | h; have := lb0 h; omega; exact h
    have mA : ¬ sgI SA (s : Int) = 0 := by cases SA <;> simp [sgI] <;> omega
    have mB : ¬ sgI SB (t : Int) = 0 := by cases SB <;> simp [sgI] <;> omega
    obtain ⟨X, hX⟩ : ∃ X, sgI SA (s : Int) * sgI SB (t : Int) = X := ⟨_, rfl⟩
    have hXg : X = sgI (SA != SB) (g : Int) := by
      rw [← hX, ← hgI]; cases SA <;> cases SB <;> simp [sgI, Int.neg_mul, Int.mul_neg]
    have hXa : X.natAbs = g := by rw [hXg]; cases (SA != SB) <;> simp [sgI]
    have hXn : decide (X < 0) = (SA != SB) := by rw [hXg]; cases (SA != SB) <;> simp [sgI] <;> omega
    have X0 : -281474976710656 < X := by omega
    have X1 : X < 281474976710656 := by omega
    rcases hzz with h0 | h0
    · have u0 : u = 0 := by have := lc0 h0; omega
      subst u0
      obtain ⟨R, r0, r1, hi, hs⟩ := whole_both_w (SA != SB) g (p + q) mode X hm.1 hm.2 (by omega) (by omega) (by omega) (by omega) hXa hXn
      refine ⟨R, fun w => s_of a b c mode _ hm w (s_prod a b c mode x y z SA SB SC xb yb zb TA TB TC w _ _ _ _ pA pB X (p + q) R mA mB hX X0 X1 rfl pbA.1 pbA.2 pbB.1 pbB.2 r0 r1 (fun v => ?_) (fun v => ?_) ⟨x1, y1, h0⟩), impl R (fun v Gv => ?_)⟩
      · have h := zZero X v
        rw [decide_eq_false (by omega : ¬ X = 0)] at h
        exact h
      · exact hs v 3 3 X 1 false false none none 0 0 0 0 (num_small v 3 X (by omega) (by omega)) (num_small v 3 1 (by decide) (by decide)) (by decide) (by decide)
      · exact rs_num (SA != SB) SC (SA != SB) false (g : Int) (p + q) 0 r (g : Int) (p + q) mode R v (by omega) (sum_nily (SA != SB) SC (g : Int) (p + q) r (by omega)) hi Gv
    · have u0 := (lc1 h0).1
      obtain ⟨Y, hY⟩ : ∃ Y, sgI SC (u : Int) = Y := ⟨_, rfl⟩
      have Y0 : -16777216 < Y := by rw [← hY]; cases SC <;> simp [sgI] <;> omega
      have Y1 : Y < 16777216 := by rw [← hY]; cases SC <;> simp [sgI] <;> omega
      rw [hY] at pC
      obtain ⟨F, M, hF, hM, HPl⟩ : ∃ F M : Int, (F = p + q ∧ p + q ≤ r ∨ F = r ∧ r ≤ p + q) ∧ M = sgI (SA != SB) (g : Int) * 2 ^ (p + q - F).toNat + sgI SC (u : Int) * 2 ^ (r - F).toNat ∧
          (∀ v : World, Calls Tryd.prog 33 #[.agg #[.int .i64 X, .bool false, .slice none 0 0, .int .i64 1, .bool false, .slice none 0 0, .int .i64 (p + q)], .agg #[.int .i64 Y, .bool false, .slice none 0 0, .int .i64 1, .bool false, .slice none 0 0, .int .i64 r]] v fun e w' => ∃ V g pp l c, e = .returned (.agg #[.int .i64 V, .bool g, .slice pp l c, .int .i64 1, .bool false, .slice none 0 0, .int .i64 F]) ∧ Num w' 200 (.agg #[.int .i64 V, .bool g, .slice pp l c]) M ∧ Below v.heap.size v w') := by
        by_cases hle : p + q ≤ r
        · refine ⟨p + q, X + Y * 2 ^ (r - (p + q)).toNat, Or.inl ⟨rfl, hle⟩, ?_, fun v => plus84_le X Y (p + q) r (r - (p + q)).toNat (by omega) (by omega) (by omega) (by omega) (by omega) (by omega) (by omega) (by omega) (by omega) (by omega) v⟩
          rw [← hXg, hY, show (p + q - (p + q)).toNat = 0 by omega]; simp
        · refine ⟨r, Y + X * 2 ^ (p + q - r).toNat, Or.inr ⟨rfl, by omega⟩, ?_, fun v => plus84_gt X Y (p + q) r (p + q - r).toNat (by omega) (by omega) (by omega) (by omega) (by omega) (by omega) (by omega) (by omega) (by omega) (by omega) (by omega) v⟩
          rw [← hXg, hY, show (r - r).toNat = 0 by omega]; simp [Int.add_comm]
      rcases sum_both (SA != SB) SC g u (p + q) r mode hm.1 hm.2 (by omega) g1 (by omega) (by omega) (by omega) (by omega) (by omega) (by omega) F M hF hM with ⟨M0, hi⟩ | ⟨M0, R, r0, r1, hi, hs⟩
      · exact ⟨_, fun w => s_of a b c mode _ hm w (s_sum0 a b c mode x y z SA SB SC xb yb zb TA TB TC w _ _ _ _ pA pB X (p + q) Y r F mA mB hX X0 X1 Y0 Y1 rfl pbA.1 pbA.2 pbB.1 pbB.2 pC M HPl M0 ⟨x1, y1, h0⟩), impl _ hi⟩
      · exact ⟨R, fun w => s_of a b c mode _ hm w (s_sum a b c mode x y z SA SB SC xb yb zb TA TB TC w _ _ _ _ pA pB X (p + q) Y r F mA mB hX X0 X1 Y0 Y1 rfl pbA.1 pbA.2 pbB.1 pbB.2 pC M HPl M0 R r0 r1 (fun v K VP gP pP lP cP NP k2 k9 => hs v K 3 VP 1 gP false pP none lP cP 0 0 NP (num_small v 3 1 (by decide) (by decide)) k2 k9) ⟨x1, y1, h0⟩), impl R hi⟩
end Go.Proofs.YtoloenkcfpfgcaaDoor.fnExactFuseWords
