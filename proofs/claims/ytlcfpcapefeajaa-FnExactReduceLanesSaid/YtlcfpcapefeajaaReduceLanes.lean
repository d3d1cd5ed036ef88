/- Proved: for every list of words, every mask and every op the law FnExactReduceLanes returns true (ReduceLanes answers as its model, and writes nothing into its argument) and the arguments read afterwards as before; no conditions. -/
import Derived.Test.YtlcfpcapefeajaaRows
import Derived.Test.YtlcfpcapefeajaaRedc
import Derived.Test.YtlcfpcapefeajaaView
namespace Go.Proofs.Ytlcfpcapefeajaa.fnExactReduceLanes
open Go.ChangeShapes Go.WideShapes Go.ChangeAt Go.RowKit
set_option linter.unusedVariables false
theorem own : ownKnob Try.prog.godebug = none := by kernel_rfl
theorem laidOut : laidOutB Try.prog = true := by kernel_rfl
theorem good16 {n : Nat} {m : Int} (h : goodM n m = true) : n ≤ 16 := by
  unfold goodM at h; simp only [decide_eq_true_eq] at h; omega
def okR (n : Nat) (m op : Int) : Bool := goodM n m && decide (m ≠ 0) && decide (1 ≤ op) && decide (op ≤ 5)
def redV (d : Nat → Int) (n : Nat) (m op : Int) : Int := if okR n m op then rd (pk d m n) op ((pk d m n).length - 1) else 0
theorem ok_parts {n : Nat} {m op : Int} (h : okR n m op = true) : goodM n m = true ∧ m ≠ 0 ∧ 1 ≤ op ∧ op ≤ 5 := by
  simp only [okR, Bool.and_eq_true, decide_eq_true_eq] at h
  exact ⟨h.1.1.1, h.1.1.2, h.1.2, h.2⟩
set_option maxHeartbeats 1000000 in
theorem red28x (n : Nat) (a : Option Addr) (ca : Nat) (m op : Int) (w : World) (hg : okR n m op = false) :
    Calls Try.prog 28 #[.slice a n ca, .int .i64 m, .int .i64 op] w fun r w' => r = .returned (.tuple #[.int .u32 0, .bool false]) ∧ w' = w := by
  cases h : goodM n m
  · clear hg
    go_enter Try.func28, Try.ntmps28
    go_wp2_with (go_at_call 9; refine (gm9 _ _ _).mono ?_; rintro e w1 ⟨rfl, hw1⟩; subst w1; rw [h])
    go_ret2
    exact ⟨rfl, rfl⟩
  simp only [okR, h, Bool.true_and, Bool.and_eq_false_iff, decide_eq_false_iff_not] at hg
  by_cases hm : m = 0
  · subst hm
    clear hg
    go_enter Try.func28, Try.ntmps28
    go_wp2_with (go_at_call 9; refine (gm9 _ _ _).mono ?_; rintro e w1 ⟨rfl, hw1⟩; subst w1; rw [h])
    go_ret2
    exact ⟨rfl, rfl⟩
  by_cases o1 : op < 1
  · clear hg
    go_enter Try.func28, Try.ntmps28
    go_wp2_with (go_at_call 9; refine (gm9 _ _ _).mono ?_; rintro e w1 ⟨rfl, hw1⟩; subst w1; rw [h])
    go_ret2
    exact ⟨rfl, rfl⟩
  have o5 : 5 < op := by omega
  clear hg
  go_enter Try.func28, Try.ntmps28
  go_wp2_with (go_at_call 9; refine (gm9 _ _ _).mono ?_; rintro e w1 ⟨rfl, hw1⟩; subst w1; rw [h])
  go_ret2
  exact ⟨rfl, rfl⟩
set_option maxHeartbeats 1000000 in
theorem red29x (n : Nat) (a : Option Addr) (ca : Nat) (m op : Int) (w : World) (hg : okR n m op = false) :
    Calls Try.prog 29 #[.slice a n ca, .int .i64 m, .int .i64 op] w fun r w' => r = .returned (.tuple #[.int .u32 0, .bool false]) ∧ Below w.heap.size w w' := by
  cases h : goodM n m
  · clear hg
    go_enter Try.func29, Try.ntmps29
    go_wp2_with (go_at_call 10; refine (gm10 _ _ _).mono ?_; rintro e w1 ⟨rfl, hw1⟩; subst w1; rw [h])
    go_ret2
    exact ⟨rfl, Below.refl _ _⟩
  simp only [okR, h, Bool.true_and, Bool.and_eq_false_iff, decide_eq_false_iff_not] at hg
  by_cases o1 : op < 1
  · clear hg
    go_enter Try.func29, Try.ntmps29
    go_wp2_with (go_at_call 10; refine (gm10 _ _ _).mono ?_; rintro e w1 ⟨rfl, hw1⟩; subst w1; rw [h])
    go_ret2
    exact ⟨rfl, Below.refl _ _⟩
  by_cases o5 : 5 < op
  · clear hg
    go_enter Try.func29, Try.ntmps29
    go_wp2_with (go_at_call 10; refine (gm10 _ _ _).mono ?_; rintro e w1 ⟨rfl, hw1⟩; subst w1; rw [h])
    go_ret2
    exact ⟨rfl, Below.refl _ _⟩
  have hm : m = 0 := by omega
  subst hm
  clear hg
  have hEq : ∀ w : World, (Op.equalIn 10000 48 (.agg #[.bool (onM 0 0), .bool (onM 0 1), .bool (onM 0 2), .bool (onM 0 3), .bool (onM 0 4), .bool (onM 0 5), .bool (onM 0 6), .bool (onM 0 7), .bool (onM 0 8), .bool (onM 0 9), .bool (onM 0 10), .bool (onM 0 11), .bool (onM 0 12), .bool (onM 0 13), .bool (onM 0 14), .bool (onM 0 15)]) (.agg #[.bool false, .bool false, .bool false, .bool false, .bool false, .bool false, .bool false, .bool false, .bool false, .bool false, .bool false, .bool false, .bool false, .bool false, .bool false, .bool false])).run Try.prog w = .ok true w := fun w => by rw [eqLanes 0 (by decide) (by decide)]; rfl
  go_enter Try.func29, Try.ntmps29
  go_wp2_with (first | (go_at_call 10; refine (gm10 _ _ _).mono ?_; rintro e w1 ⟨rfl, hw1⟩; subst w1; rw [h]) | (go_at_call 31; refine (lanes31 0 w).mono ?_; rintro e w1 ⟨rfl, B1⟩))
  go_ret2
  exact ⟨rfl, B1.trans (((Below.refl _ _).alloc (Nat.le_refl _) _).mono B1.size)⟩
theorem redS {n o : Nat} {d : Nat → Int} {w : World} (O : Own w o n (fun i => .int .u32 (d i))) (c : Nat) (m op : Int) (hd : ∀ i, inW (d i)) :
    Calls Try.prog 28 #[.slice (some ⟨o, 0, none⟩) n c, .int .i64 m, .int .i64 op] w fun r w' => r = .returned (.tuple #[.int .u32 (redV d n m op), .bool (okR n m op)]) ∧ Below w.heap.size w w' := by
  unfold redV
  by_cases h : okR n m op = true
  · rw [if_pos h, h]
    obtain ⟨hg, hm, h1, h5⟩ := ok_parts h
    rcases (show op = 1 ∨ op = 2 ∨ op = 3 ∨ op = 4 ∨ op = 5 by omega) with rfl | rfl | rfl | rfl | rfl
    · exact red28_1 n o c d m w (good16 hg) hg hm hd O.hi O.cell
    · exact red28_2 n o c d m w (good16 hg) hg hm hd O.hi O.cell
    · exact red28_3 n o c d m w (good16 hg) hg hm hd O.hi O.cell
    · exact red28_4 n o c d m w (good16 hg) hg hm hd O.hi O.cell
    · exact red28_5 n o c d m w (good16 hg) hg hm hd O.hi O.cell
  · rw [if_neg h, Bool.eq_false_iff.2 h]; exact (red28x n _ c m op w (Bool.eq_false_iff.2 h)).mono fun e w' ⟨h1, h2⟩ => ⟨h1, by rw [h2]; exact Below.refl _ _⟩
theorem redI {n o : Nat} {d : Nat → Int} {w : World} (O : Own w o n (fun i => .int .u32 (d i))) (c : Nat) (m op : Int) (hd : ∀ i, inW (d i)) :
    Calls Try.prog 29 #[.slice (some ⟨o, 0, none⟩) n c, .int .i64 m, .int .i64 op] w fun r w' => r = .returned (.tuple #[.int .u32 (redV d n m op), .bool (okR n m op)]) ∧ Below w.heap.size w w' := by
  unfold redV
  by_cases h : okR n m op = true
  · rw [if_pos h, h]
    obtain ⟨hg, hm, h1, h5⟩ := ok_parts h
    exact red29 n o c d m op h1 h5 w (good16 hg) hg hm hd O.hi O.cell
  · rw [if_neg h, Bool.eq_false_iff.2 h]; exact red29x n _ c m op w (Bool.eq_false_iff.2 h)

set_option maxHeartbeats 2000000 in
theorem walk (w : World) (s0 : Option Addr) (n0 c0 : Nat) (f0 : Nat → Int) (m0 : n0 ≤ 9223372036854775807) (A0 : Arg w s0 n0 (fun i => .int .u32 (f0 i))) (z0 : ∀ i, (Lit.int .u32 (f0 i)).wf = true) (a1 : Int) (w1 : (Lit.int .i64 a1).wf = true) (a2 : Int) (w2 : (Lit.int .i64 a2).wf = true) :
    Calls Try.prog 8 #[.slice s0 n0 c0, .int .i64 a1, .int .i64 a2] w fun e w' => e = .returned (.bool true) ∧ Below w.heap.size w w' := by
  by_cases big : 1048576 < n0
  · have big' : (1048576 : Int) < (n0 : Int) := by omega
    go_enter Try.func8, Try.ntmps8
    go_wp2
    go_ret
    exact ⟨rfl, Below.refl _ _⟩
  have hn : n0 ≤ 1048576 := by omega
  have hn' : (n0 : Int) ≤ 1048576 := by omega
  have hd : ∀ i, inW (f0 i) := fun i => by have := bounds_u32 (z0 i); unfold inW; omega
  go_enter Try.func8, Try.ntmps8
  go_wp2_with (first | (go_at_call 16; (with_reducible show Calls Try.prog 16 _ w _); refine (argU (w := w) A0 c0 hn).mono ?_; rintro e w1 ⟨rfl, O1, B1⟩) | (go_at_call 28; refine (redS O1 n0 a1 a2 hd).mono ?_; rintro e w2 ⟨rfl, B2'⟩; have B2 := B1.trans (B2'.mono B1.size); have A2 := A0.next B2) | (go_at_call 16; (with_reducible show Calls Try.prog 16 _ w2 _); refine (argU (w := w2) A2 c0 hn).mono ?_; rintro e w3 ⟨rfl, O3, B3'⟩; have B3 := B2.trans (B3'.mono B2.size)) | (go_at_call 29; refine (redI O3 n0 a1 a2 hd).mono ?_; rintro e w4 ⟨rfl, B4'⟩; have B4 := B3.trans (B4'.mono B3.size); have A4 := A0.next B4; have O4 := O3.next B4') | (go_at_call 16; (with_reducible show Calls Try.prog 16 _ w4 _); refine (argU (w := w4) A4 c0 hn).mono ?_; rintro e w5 ⟨rfl, O5, B5'⟩; have B5 := B4.trans (B5'.mono B4.size)) | (go_at_call 19; refine (eqU n0 w2.heap.size w4.heap.size n0 n0 f0 w5 hn (O4.next B5').cell O5.cell).mono ?_; rintro e w6 ⟨rfl, q, rfl⟩))
  go_ret
  exact ⟨rfl, below_drewN B5 q⟩

set_option maxRecDepth 100000 in
theorem lifted (os : Os) (started : os.Started) (H : Type) (enc : TypeId × Value → H) :
    ReturnsInHanded {} Try.checked os 8 .any (Rows.fnExactReduceLanesSpec.pre6 enc Try.prog Try.f8 Rows.fnExactReduceLanesRow.domain false) (Rows.fnExactReduceLanesSpec.post enc Try.prog Try.f8 false true false false) := by
  refine returnsInHanded_of_change (C := Try.checked) own started (by kernel_rfl) Try.func8
    (ChangeSpec.witness6 (enc := enc) (C := Try.checked) false ⟨#[], #[.slice none 0 0, .int .i64 0, .int .i64 0], []⟩ 8 (by kernel_rfl) (by kernel_rfl) (by kernel_rfl) (by kernel_rfl)) ?_
  intro W base args ds gs before hval0 hW hcnd _
  have hval : ∀ (j : Nat) t v, Try.f8.params[j]? = some t → args[j]? = some v → Value.okWide Try.prog W .any base t v := hval0
  have hW' := hW
  obtain ⟨p, q, hA0, hV, rfl, hfz, hnd⟩ := hW
  have hA : DataW.TrodAll enc Try.prog W 0 (fun _ => true) true Try.f8.params.toList args.toList ds p := hA0
  rw [Try.params8] at hA hval
  obtain ⟨v0, vs0, d0, ds0, p0, q0, hargs, rfl, rfl, h0, r0⟩ := trodAll_cons hA
  obtain ⟨v1, vs1, d1, ds1, p1, q1, rfl, rfl, rfl, h1, r1⟩ := trodAll_cons r0
  obtain ⟨v2, vs2, d2, ds2, p2, q2, rfl, rfl, rfl, h2, r2⟩ := trodAll_cons r1
  obtain ⟨rfl, rfl, rfl⟩ := trodAll_nil r2
  obtain rfl : args = #[v0, v1, v2] := by cases args; simp_all
  obtain ⟨rfl, rfl⟩ := trodVars_none hV
  simp only [List.append_nil] at hW'
  have k0 := h0
  have lt0 : ∀ x ∈ p0, x.block < W.heap.size := fun x hx => by have := hW'.lt x (by simp [hx]); simpa using this
  obtain ⟨s0, n0, c0, f0, rfl, m0, A0, z0⟩ := view_ints Try.underlying28 Try.underlying39 (by kernel_rfl) (hval 0 28 v0 rfl rfl) h0 lt0
  have arg0 : ∀ (W' : World), Below W.heap.size W W' → DataW.Trod enc Try.prog W' 0 (fun b => decide (b < W.heap.size)) true 28 (.slice s0 n0 c0) d0 p0 := fun W' hn => Below.trod laidOut (by kernel_rfl) (of_decide_eq_true (by kernel_rfl)) k0 hn lt0
  obtain ⟨a1, rfl, rfl, rfl, w1⟩ := open_int Try.underlying3 (hval 1 3 v1 rfl rfl) h1
  obtain ⟨a2, rfl, rfl, rfl, w2⟩ := open_int Try.underlying3 (hval 2 3 v2 rfl rfl) h2
  clear hA0 hval0
  refine (walk W s0 n0 c0 f0 m0 A0 z0 a1 w1 a2 w2).mono fun e W' ⟨he, hg⟩ => ?_
  subst he
  refine ⟨_, rfl, _, _, _, [], p0 ++ ([] ++ ([] ++ [])), [], hW', (trodAll_cons_mk (shut_bool Try.underlying4 _) trodAll_mk0), (trodAll_cons_mk (arg0 _ hg) (trodAll_cons_mk (shut_int Try.underlying3 w1) (trodAll_cons_mk (shut_int Try.underlying3 w2) trodAll_mk0))), rfl, hg.frame _, fun h => by cases h⟩
theorem over : Rows.fnExactReduceLanesRow.holds Try.pinned (OpenSpec.ofChange Rows.fnExactReduceLanesSpec) :=
  OpenClaim.holds_of_wide 8 Try.f8 rfl rfl rfl rfl rfl rfl rfl ⟨rfl, rfl, rfl, rfl, rfl⟩ rfl rfl rfl rfl rfl (by kernel_rfl) Try.func8 (by kernel_rfl)
    (of_decide_eq_true (by kernel_rfl)) (by unfold Func.isWrapper; first | (rw [if_pos (by decide +kernel)]; kernel_rfl) | (rw [if_neg (by decide +kernel)]; exact ⟨rfl, rfl⟩))
    (fun os started H enc _ => lifted os started H enc)
end Go.Proofs.Ytlcfpcapefeajaa.fnExactReduceLanes
namespace Go.Proofs.Ytlcfpcapefeajaa
theorem reduce_lanes_holds : Rows.FnExactReduceLanesSaid := fnExactReduceLanes.over
#print axioms reduce_lanes_holds
end Go.Proofs.Ytlcfpcapefeajaa
