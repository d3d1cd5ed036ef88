/- Proved: for every list of nodes and every int the law FnExactNodeEnd returns true (NodeEnd answers as its model, the list is not written into) and the arguments read afterwards as before; no conditions. -/
import Derived.Test.YtojjifppfinkhaaRows
import Derived.Test.YtojjifppfinkhaaEnd
import Derived.WalkKit
import Derived.ProofKit
import Derived.OpenShut
import Derived.ChangeMaps5
import Derived.Carry
namespace Go.Proofs.Ytojjifppfinkhaa.fnExactNodeEnd
open Go.ChangeShapes Go.WideShapes Go.ChangeAt Go.RowKit
set_option linter.unusedVariables false
theorem own : ownKnob Try.prog.godebug = none := by kernel_rfl
theorem laidOut : laidOutB Try.prog = true := by kernel_rfl

set_option maxHeartbeats 2000000 in
theorem walk (w : World) (s0 : Option Addr) (n0 c0 : Nat) (K0 : Nat → Int) (T0 : Nat → ByteArray) (J0 : Nat → Int) (m0 : n0 ≤ 9223372036854775807) (A0 : Arg3 w s0 n0 K0 T0 J0) (t0 : ∀ i, (T0 i).size ≤ 9223372036854775807) (a1 : Int) (w1 : (Lit.int .i64 a1).wf = true) :
    Calls Try.prog 4 #[.slice s0 n0 c0, .int .i64 a1] w fun e w' => e = .returned (.bool true) ∧ Below w.heap.size w w' := by
  have hsz := argSz A0 c0 m0 t0
  have HS : Hid (Calls Try.prog 7 #[.slice s0 n0 c0, .int .i64 1048576] w fun r w' => (∃ z : Int, r = .returned (.int .i64 z) ∧ (z < 0 ∨ 0 ≤ z ∧ n0 ≤ 1048576)) ∧ Below w.heap.size w w') := hsz
  clear hsz
  obtain ⟨R, hR⟩ : ∃ R, nodeEnd J0 n0 a1 = R := ⟨_, rfl⟩
  have HA : Hid (Arg3 w s0 n0 K0 T0 J0) := A0
  clear A0
  go_enter Try.func4, Try.ntmps4
  go_wp2_with (first | (go_at_call 7; refine (Hid.out HS).mono ?_; rintro e w1 ⟨⟨z, rfl, hz⟩, B1⟩; have HA1 := HA.out.next B1) | (go_at_call 9; (have hn : n0 ≤ 1048576 := by omega); refine (argN (w := w1) HA1 c0 hn).mono ?_; rintro e w2 ⟨rfl, R2, B2⟩; have HA2 := HA1.next B2) | (go_at_call 8; refine (end8 R2 _ a1 (by omega)).mono ?_; rw [hR]; rintro e w3 ⟨rfl, B3⟩; have HA3 := HA2.next B3) | (go_at_call 9; (have hn : n0 ≤ 1048576 := by omega); refine (argN (w := w3) HA3 c0 hn).mono ?_; rintro e w4 ⟨rfl, R4, B4⟩; have HA4 := HA3.next B4) | (go_at_call 10; refine (end10 R4 _ a1 (by omega)).mono ?_; rw [hR]; rintro e w5 ⟨rfl, B5⟩; have HA5 := HA4.next B5; have R5 := R4.next B5) | (go_at_call 9; (have hn : n0 ≤ 1048576 := by omega); refine (argN (w := w5) HA5 c0 hn).mono ?_; rintro e w6 ⟨rfl, R6, B6⟩; have R5' := R5.next B6) | (go_at_call 11; refine (eqN R5' R6 _ _ (by omega)).mono ?_; rintro e w7 ⟨rfl, B7⟩))
  · go_ret
    exact ⟨rfl, B1⟩
  · go_ret
    exact ⟨rfl, by
      have q2 := B1.trans (B2.mono B1.size)
      have q3 := q2.trans (B3.mono q2.size)
      have q4 := q3.trans (B4.mono q3.size)
      have q5 := q4.trans (B5.mono q4.size)
      have q6 := q5.trans (B6.mono q5.size)
      exact q6.trans (B7.mono q6.size)⟩
set_option maxRecDepth 100000 in
theorem lifted (os : Os) (started : os.Started) (H : Type) (enc : TypeId × Value → H) :
    ReturnsInHanded {} Try.checked os 4 .any (Rows.fnExactNodeEndSpec.pre6 enc Try.prog Try.f4 Rows.fnExactNodeEndRow.domain false) (Rows.fnExactNodeEndSpec.post enc Try.prog Try.f4 false true false false) := by
  refine returnsInHanded_of_change (C := Try.checked) own started (by kernel_rfl) Try.func4
    (ChangeSpec.witness6 (enc := enc) (C := Try.checked) false ⟨#[], #[.slice none 0 0, .int .i64 0], []⟩ 8 (by kernel_rfl) (by kernel_rfl) (by kernel_rfl) (by kernel_rfl)) ?_
  intro W base args ds gs before hval0 hW hcnd _
  have hval : ∀ (j : Nat) t v, Try.f4.params[j]? = some t → args[j]? = some v → Value.okWide Try.prog W .any base t v := hval0
  have hW' := hW
  obtain ⟨p, q, hA0, hV, rfl, hfz, hnd⟩ := hW
  have hA : DataW.TrodAll enc Try.prog W 0 (fun _ => true) true Try.f4.params.toList args.toList ds p := hA0
  rw [Try.params4] at hA hval
  obtain ⟨v0, vs0, d0, ds0, p0, q0, hargs, rfl, rfl, h0, r0⟩ := trodAll_cons hA
  obtain ⟨v1, vs1, d1, ds1, p1, q1, rfl, rfl, rfl, h1, r1⟩ := trodAll_cons r0
  obtain ⟨rfl, rfl, rfl⟩ := trodAll_nil r1
  obtain rfl : args = #[v0, v1] := by cases args; simp_all
  obtain ⟨rfl, rfl⟩ := trodVars_none hV
  simp only [List.append_nil] at hW'
  have k0 := h0
  have lt0 : ∀ x ∈ p0, x.block < W.heap.size := fun x hx => by have := hW'.lt x (by simp [hx]); simpa using this
  obtain ⟨s0, n0, c0, K0, T0, J0, rfl, m0, A0, t0, _, _⟩ := view_nodes Try.underlying24 Try.underlying33 (by kernel_rfl) rfl rfl rfl (by kernel_rfl) (by kernel_rfl) (by kernel_rfl) Try.underlying3 Try.underlying9 Try.underlying3 (hval 0 24 v0 rfl rfl) h0 lt0
  have arg0 : ∀ (W' : World), Below W.heap.size W W' → DataW.Trod enc Try.prog W' 0 (fun b => decide (b < W.heap.size)) true 24 (.slice s0 n0 c0) d0 p0 := fun W' hn => Below.trod laidOut (by kernel_rfl) (of_decide_eq_true (by kernel_rfl)) k0 hn lt0
  obtain ⟨a1, rfl, rfl, rfl, w1⟩ := open_int Try.underlying3 (hval 1 3 v1 rfl rfl) h1
  clear hA0 hval0
  refine (walk W s0 n0 c0 K0 T0 J0 m0 A0 t0 a1 w1).mono fun e W' ⟨he, hg⟩ => ?_
  subst he
  refine ⟨_, rfl, _, _, _, [], p0 ++ ([] ++ []), [], hW', (trodAll_cons_mk (shut_bool Try.underlying4 _) trodAll_mk0), (trodAll_cons_mk (arg0 _ hg) (trodAll_cons_mk (shut_int Try.underlying3 w1) trodAll_mk0)), rfl, hg.frame _, fun h => by cases h⟩
theorem over : Rows.fnExactNodeEndRow.holds Try.pinned (OpenSpec.ofChange Rows.fnExactNodeEndSpec) :=
  OpenClaim.holds_of_wide 4 Try.f4 rfl rfl rfl rfl rfl rfl rfl ⟨rfl, rfl, rfl, rfl, rfl⟩ rfl rfl rfl rfl rfl (by kernel_rfl) Try.func4 (by kernel_rfl)
    (of_decide_eq_true (by kernel_rfl)) (by unfold Func.isWrapper; first | (rw [if_pos (by decide +kernel)]; kernel_rfl) | (rw [if_neg (by decide +kernel)]; exact ⟨rfl, rfl⟩))
    (fun os started H enc _ => lifted os started H enc)
end Go.Proofs.Ytojjifppfinkhaa.fnExactNodeEnd
namespace Go.Proofs.Ytojjifppfinkhaa
theorem node_end_holds : Rows.FnExactNodeEndSaid := fnExactNodeEnd.over
#print axioms node_end_holds
end Go.Proofs.Ytojjifppfinkhaa
