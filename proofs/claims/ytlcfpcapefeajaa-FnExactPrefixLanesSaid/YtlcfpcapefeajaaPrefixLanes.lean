/- Proved: for every list of words and every mask the law FnExactPrefixLanes returns true (PrefixLanes answers as its model, writes nothing into its argument, and its answer is memory of its own) and the arguments read afterwards as before; no conditions. -/
import Derived.Test.YtlcfpcapefeajaaRows
import Derived.Test.YtlcfpcapefeajaaPrefix
import Derived.Test.YtlcfpcapefeajaaMark
namespace Go.Proofs.Ytlcfpcapefeajaa.fnExactPrefixLanes
open Go.ChangeShapes Go.WideShapes Go.ChangeAt Go.RowKit
set_option linter.unusedVariables false
theorem own : ownKnob Try.prog.godebug = none := by kernel_rfl
theorem laidOut : laidOutB Try.prog = true := by kernel_rfl
theorem mark1 {n a : Nat} {f : Nat → Value} {w : World} (O : Own w a n f) (ca : Nat) (hn : n ≤ 1048576) :
    Calls Try.prog 21 #[.slice (some ⟨a, 0, none⟩) n ca, .int .i64 1] w fun r w' => r = .returned (.int .i64 (1 + (n : Int))) ∧ Own w' a n (fun i => .int .u32 ((1 + i : Nat) : Int)) ∧ Only a w w' :=
  (mark21 O ca 1 hn (by omega)).mono fun e w' ⟨h1, h2, h3⟩ => ⟨h1.trans (by rw [Int.natCast_add]; rfl), h2, h3⟩
theorem held1 {n a : Nat} {w : World} (ca : Nat) (O : Own w a n (fun i => .int .u32 ((1 + i : Nat) : Int))) (hn : n ≤ 1048576) :
    Calls Try.prog 23 #[.slice (some ⟨a, 0, none⟩) n ca, .int .i64 1] w fun r w' => r = .returned (.int .i64 (1 + (n : Int))) ∧ w' = w :=
  (held23 ca 1 O hn (by omega)).mono fun e w' ⟨h1, h2⟩ => ⟨h1.trans (by rw [Int.natCast_add]; rfl), h2⟩

set_option maxHeartbeats 2000000 in
theorem walk0 (w : World) (s0 : Option Addr) (n0 c0 : Nat) (f0 : Nat → Int) (A0 : Arg w s0 n0 (fun i => .int .u32 (f0 i))) (a1 : Int) (hn : n0 ≤ 1048576) (hn' : (n0 : Int) ≤ 1048576) (pos' : ¬ (1 + (n0 : Int)) < 0) (hg : goodM n0 a1 = false) :
    Calls Try.prog 7 #[.slice s0 n0 c0, .int .i64 a1] w fun e w' => e = .returned (.bool true) ∧ Below w.heap.size w w' := by
  go_enter Try.func7, Try.ntmps7
  go_wp2_with (first | (go_at_call 16; (with_reducible show Calls Try.prog 16 _ w _); refine (argU (w := w) A0 c0 hn).mono ?_; rintro e w1 ⟨rfl, O1, B1⟩) | (go_at_call 26; (with_reducible show Calls Try.prog 26 _ w1 _); refine (pre26x n0 _ n0 a1 w1 hg).mono ?_; rintro e wz ⟨rfl, hw⟩; subst wz; have A1 := A0.next B1) | (go_at_call 16; (with_reducible show Calls Try.prog 16 _ w1 _); refine (argU (w := w1) A1 c0 hn).mono ?_; rintro e w3 ⟨rfl, O3, C3⟩; have B3 := B1.trans (C3.mono B1.size)) | (go_at_call 27; (with_reducible show Calls Try.prog 27 _ w3 _); refine (pre27x n0 _ n0 a1 w3 hg).mono ?_; rintro e wz ⟨rfl, hw⟩; subst wz; have A3 := A0.next B3) | (go_at_call 19; (with_reducible show Calls Try.prog 19 #[Value.slice none 0 0, Value.slice none 0 0] _ _); refine (eqU0 none none 0 0 _).mono ?_; rintro e wz ⟨rfl, hw⟩; subst wz) | (go_at_call 16; (with_reducible show Calls Try.prog 16 _ w3 _); refine (argU (w := w3) A3 c0 hn).mono ?_; rintro e w6 ⟨rfl, O6, C6⟩; have B6 := B3.trans (C6.mono B3.size); have X6 := O3.next C6) | (go_at_call 19; (with_reducible show Calls Try.prog 19 _ w6 _); refine (sameU X6 O6 n0 n0 hn).mono ?_; rintro e w7 ⟨rfl, C7⟩; have B7 := B6.trans (C7.mono B6.size); have X7 := X6.next C7) | (go_at_call 21; (with_reducible show Calls Try.prog 21 _ w7 _); refine (mark1 X7 n0 hn).mono ?_; rintro e w8 ⟨rfl, X8, C8⟩; have B8 := B7.trans (C8.below (B := w.heap.size) B1.size B7.size); have A8 := A0.next B8) | (go_at_call 21; (with_reducible show Calls Try.prog 21 _ w8 _); refine (mark21n none 0 1 w8).mono ?_; rintro e wz ⟨rfl, hw⟩; subst wz) | (go_at_call 23; refine (held23n none 0 1 _).mono ?_; rintro e wz ⟨rfl, hw⟩; subst wz) | (go_at_call 16; (with_reducible show Calls Try.prog 16 _ w8 _); refine (argU (w := w8) A8 c0 hn).mono ?_; rintro e w11 ⟨rfl, O11, C11⟩; have B11 := B8.trans (C11.mono B8.size)) | (go_at_call 27; (with_reducible show Calls Try.prog 27 _ w11 _); refine (pre27x n0 _ n0 a1 w11 hg).mono ?_; rintro e wz ⟨rfl, hw⟩; subst wz))
  go_ret
  exact ⟨rfl, B11⟩
set_option maxHeartbeats 2000000 in
theorem walk1 (w : World) (s0 : Option Addr) (n0 c0 : Nat) (f0 : Nat → Int) (A0 : Arg w s0 n0 (fun i => .int .u32 (f0 i))) (a1 : Int) (hn : n0 ≤ 1048576) (hn' : (n0 : Int) ≤ 1048576) (pos' : ¬ (1 + (n0 : Int)) < 0) (hg : goodM n0 a1 = true) :
    Calls Try.prog 7 #[.slice s0 n0 c0, .int .i64 a1] w fun e w' => e = .returned (.bool true) ∧ Below w.heap.size w w' := by
  go_enter Try.func7, Try.ntmps7
  go_wp2_with (first | (go_at_call 16; (with_reducible show Calls Try.prog 16 _ w _); refine (argU (w := w) A0 c0 hn).mono ?_; rintro e w1 ⟨rfl, O1, B1⟩) | (go_at_call 26; (with_reducible show Calls Try.prog 26 _ w1 _); refine (pre26 O1 n0 a1 hg).mono ?_; rintro e w2 ⟨g2, rfl, l2, S2, C2⟩; have B2 := B1.trans (C2.mono B1.size); have A2 := A0.next B2) | (go_at_call 16; (with_reducible show Calls Try.prog 16 _ w2 _); refine (argU (w := w2) A2 c0 hn).mono ?_; rintro e w3 ⟨rfl, O3, C3⟩; have B3 := B2.trans (C3.mono B2.size); have S3 := S2.next C3) | (go_at_call 27; (with_reducible show Calls Try.prog 27 _ w3 _); refine (pre27 O3 n0 a1 hg).mono ?_; rintro e w4 ⟨g4, rfl, l4, G4, C4⟩; have B4 := B3.trans (C4.mono B3.size); have S4 := S3.next C4; have X4 := O3.next C4) | (go_at_call 19; (with_reducible show Calls Try.prog 19 _ w4 _); refine (sameU G4 S4 n0 n0 hn).mono ?_; rintro e w5 ⟨rfl, C5⟩; have B5 := B4.trans (C5.mono B4.size); have S5 := S4.next C5; have X5 := X4.next C5; have G5 := G4.next C5; have A5 := A0.next B5) | (go_at_call 16; (with_reducible show Calls Try.prog 16 _ w5 _); refine (argU (w := w5) A5 c0 hn).mono ?_; rintro e w6 ⟨rfl, O6, C6⟩; have B6 := B5.trans (C6.mono B5.size); have S6 := S5.next C6; have X6 := X5.next C6; have G6 := G5.next C6) | (go_at_call 19; (with_reducible show Calls Try.prog 19 _ w6 _); refine (sameU X6 O6 n0 n0 hn).mono ?_; rintro e w7 ⟨rfl, C7⟩; have B7 := B6.trans (C7.mono B6.size); have S7 := S6.next C7; have X7 := X6.next C7; have G7 := G6.next C7) | (go_at_call 21; (with_reducible show Calls Try.prog 21 _ w7 _); refine (mark1 X7 n0 hn).mono ?_; rintro e w8 ⟨rfl, X8, C8⟩; (have n1 : g2 ≠ w2.heap.size := by have := S2.hi; omega); (have n2 : g4 ≠ w2.heap.size := by have := C3.size; have := O3.hi; omega); have S8 := S7.but C8 n1; have G8 := G7.but C8 n2; (have B8 := B7.trans (C8.below (B := w.heap.size) B2.size B7.size))) | (go_at_call 19; (with_reducible show Calls Try.prog 19 _ w8 _); refine (sameU G8 S8 n0 n0 hn).mono ?_; rintro e w9 ⟨rfl, C9⟩; have B9 := B8.trans (C9.mono B8.size); have S9 := S8.next C9; have G9 := G8.next C9) | (go_at_call 21; (with_reducible show Calls Try.prog 21 _ w9 _); refine (mark1 G9 n0 hn).mono ?_; rintro e w10 ⟨rfl, G10, C10⟩; (have n3 : g2 ≠ g4 := by have := S3.hi; omega); have S10 := S9.but C10 n3; (have l4' : w.heap.size ≤ g4 := by have := B3.size; omega); have B10 := B9.trans (C10.below (B := w.heap.size) l4' B9.size); have A10 := A0.next B10) | (go_at_call 23; (with_reducible show Calls Try.prog 23 _ w10 _); refine (held1 n0 G10 hn).mono ?_; rintro e wz ⟨rfl, hw⟩; subst wz) | (go_at_call 16; (with_reducible show Calls Try.prog 16 _ w10 _); refine (argU (w := w10) A10 c0 hn).mono ?_; rintro e w11 ⟨rfl, O11, C11⟩; have B11 := B10.trans (C11.mono B10.size); have S11 := S10.next C11; have G11 := G10.next C11) | (go_at_call 27; (with_reducible show Calls Try.prog 27 _ w11 _); refine (pre27 O11 n0 a1 hg).mono ?_; rintro e w12 ⟨g12, rfl, l12, H12, C12⟩; have B12 := B11.trans (C12.mono B11.size); have S12 := S11.next C12; have G12 := G11.next C12) | (go_at_call 19; (with_reducible show Calls Try.prog 19 _ w12 _); refine (sameU H12 S12 n0 n0 hn).mono ?_; rintro e w13 ⟨rfl, C13⟩; have B13 := B12.trans (C13.mono B12.size); have G13 := G12.next C13) | (go_at_call 23; (with_reducible show Calls Try.prog 23 _ w13 _); refine (held1 n0 G13 hn).mono ?_; rintro e wz ⟨rfl, hw⟩; subst wz))
  go_ret
  exact ⟨rfl, B13⟩

set_option maxHeartbeats 2000000 in
theorem walk (w : World) (s0 : Option Addr) (n0 c0 : Nat) (f0 : Nat → Int) (m0 : n0 ≤ 9223372036854775807) (A0 : Arg w s0 n0 (fun i => .int .u32 (f0 i))) (z0 : ∀ i, (Lit.int .u32 (f0 i)).wf = true) (a1 : Int) (w1 : (Lit.int .i64 a1).wf = true) :
    Calls Try.prog 7 #[.slice s0 n0 c0, .int .i64 a1] w fun e w' => e = .returned (.bool true) ∧ Below w.heap.size w w' := by
  by_cases big : 1048576 < n0
  · have big' : (1048576 : Int) < (n0 : Int) := by omega
    go_enter Try.func7, Try.ntmps7
    go_wp2
    go_ret
    exact ⟨rfl, Below.refl _ _⟩
  have hn : n0 ≤ 1048576 := by omega
  have hn' : (n0 : Int) ≤ 1048576 := by omega
  have pos' : ¬ (1 + (n0 : Int)) < 0 := by omega
  cases hg : goodM n0 a1
  · exact walk0 w s0 n0 c0 f0 A0 a1 hn hn' pos' hg
  · exact walk1 w s0 n0 c0 f0 A0 a1 hn hn' pos' hg

set_option maxRecDepth 100000 in
theorem lifted (os : Os) (started : os.Started) (H : Type) (enc : TypeId × Value → H) :
    ReturnsInHanded {} Try.checked os 7 .any (Rows.fnExactPrefixLanesSpec.pre6 enc Try.prog Try.f7 Rows.fnExactPrefixLanesRow.domain false) (Rows.fnExactPrefixLanesSpec.post enc Try.prog Try.f7 false true false false) := by
  refine returnsInHanded_of_change (C := Try.checked) own started (by kernel_rfl) Try.func7
    (ChangeSpec.witness6 (enc := enc) (C := Try.checked) false ⟨#[], #[.slice none 0 0, .int .i64 0], []⟩ 8 (by kernel_rfl) (by kernel_rfl) (by kernel_rfl) (by kernel_rfl)) ?_
  intro W base args ds gs before hval0 hW hcnd _
  have hval : ∀ (j : Nat) t v, Try.f7.params[j]? = some t → args[j]? = some v → Value.okWide Try.prog W .any base t v := hval0
  have hW' := hW
  obtain ⟨p, q, hA0, hV, rfl, hfz, hnd⟩ := hW
  have hA : DataW.TrodAll enc Try.prog W 0 (fun _ => true) true Try.f7.params.toList args.toList ds p := hA0
  rw [Try.params7] at hA hval
  obtain ⟨v0, vs0, d0, ds0, p0, q0, hargs, rfl, rfl, h0, r0⟩ := trodAll_cons hA
  obtain ⟨v1, vs1, d1, ds1, p1, q1, rfl, rfl, rfl, h1, r1⟩ := trodAll_cons r0
  obtain ⟨rfl, rfl, rfl⟩ := trodAll_nil r1
  obtain rfl : args = #[v0, v1] := by cases args; simp_all
  obtain ⟨rfl, rfl⟩ := trodVars_none hV
  simp only [List.append_nil] at hW'
  have k0 := h0
  have lt0 : ∀ x ∈ p0, x.block < W.heap.size := fun x hx => by have := hW'.lt x (by simp [hx]); simpa using this
  obtain ⟨s0, n0, c0, f0, rfl, m0, A0, z0⟩ := view_ints Try.underlying28 Try.underlying39 (by kernel_rfl) (hval 0 28 v0 rfl rfl) h0 lt0
  have arg0 : ∀ (W' : World), Below W.heap.size W W' → DataW.Trod enc Try.prog W' 0 (fun b => decide (b < W.heap.size)) true 28 (.slice s0 n0 c0) d0 p0 := fun W' hn => Below.trod laidOut (by kernel_rfl) (of_decide_eq_true (by kernel_rfl)) k0 hn lt0
  obtain ⟨a1, rfl, rfl, rfl, w1⟩ := open_int Try.underlying3 (hval 1 3 v1 rfl rfl) h1
  clear hA0 hval0
  refine (walk W s0 n0 c0 f0 m0 A0 z0 a1 w1).mono fun e W' ⟨he, hg⟩ => ?_
  subst he
  refine ⟨_, rfl, _, _, _, [], p0 ++ ([] ++ []), [], hW', (trodAll_cons_mk (shut_bool Try.underlying4 _) trodAll_mk0), (trodAll_cons_mk (arg0 _ hg) (trodAll_cons_mk (shut_int Try.underlying3 w1) trodAll_mk0)), rfl, hg.frame _, fun h => by cases h⟩
theorem over : Rows.fnExactPrefixLanesRow.holds Try.pinned (OpenSpec.ofChange Rows.fnExactPrefixLanesSpec) :=
  OpenClaim.holds_of_wide 7 Try.f7 rfl rfl rfl rfl rfl rfl rfl ⟨rfl, rfl, rfl, rfl, rfl⟩ rfl rfl rfl rfl rfl (by kernel_rfl) Try.func7 (by kernel_rfl)
    (of_decide_eq_true (by kernel_rfl)) (by unfold Func.isWrapper; first | (rw [if_pos (by decide +kernel)]; kernel_rfl) | (rw [if_neg (by decide +kernel)]; exact ⟨rfl, rfl⟩))
    (fun os started H enc _ => lifted os started H enc)
end Go.Proofs.Ytlcfpcapefeajaa.fnExactPrefixLanes
namespace Go.Proofs.Ytlcfpcapefeajaa
theorem prefix_lanes_holds : Rows.FnExactPrefixLanesSaid := fnExactPrefixLanes.over
#print axioms prefix_lanes_holds
end Go.Proofs.Ytlcfpcapefeajaa
