/- Proved: for every list of bools the law FnExactBallotOf returns true (BallotOf answers as its model, and writes nothing into its argument) and the argument reads afterwards as before; no conditions. -/
import Derived.Test.YtlcfpcapefeajaaRows
import Derived.Test.YtlcfpcapefeajaaBallot
import Derived.Test.YtlcfpcapefeajaaView
namespace Go.Proofs.Ytlcfpcapefeajaa.fnExactBallotOf
open Go.ChangeShapes Go.WideShapes Go.ChangeAt Go.RowKit
set_option linter.unusedVariables false
theorem own : ownKnob Try.prog.godebug = none := by kernel_rfl
theorem laidOut : laidOutB Try.prog = true := by kernel_rfl

set_option maxHeartbeats 2000000 in
theorem walk (w : World) (s0 : Option Addr) (n0 c0 : Nat) (f0 : Nat → Bool) (m0 : n0 ≤ 9223372036854775807) (A0 : Arg w s0 n0 (fun i => .bool (f0 i))) :
    Calls Try.prog 4 #[.slice s0 n0 c0] w fun e w' => e = .returned (.bool true) ∧ Below w.heap.size w w' := by
  by_cases big : 1048576 < n0
  · have big' : (1048576 : Int) < (n0 : Int) := by omega
    go_enter Try.func4, Try.ntmps4
    go_wp2
    go_ret
    exact ⟨rfl, Below.refl _ _⟩
  have hn : n0 ≤ 1048576 := by omega
  have hn' : (n0 : Int) ≤ 1048576 := by omega
  go_enter Try.func4, Try.ntmps4
  go_wp2_with (first | (go_at_call 12; refine (argB (w := w) A0 c0 hn).mono ?_; rintro e w1 ⟨rfl, O1, B1⟩; have A1 := A0.next B1) | (go_at_call 11; refine (balS n0 w.heap.size n0 f0 w1 hn O1.cell).mono ?_; rintro e w1' ⟨rfl, rfl⟩) | (go_at_call 12; refine (argB (w := w1') A1 c0 hn).mono ?_; rintro e w2 ⟨rfl, O2, B2⟩; have A2 := A1.next B2) | (go_at_call 13; refine (balI n0 w1'.heap.size n0 f0 w2 hn O2.cell).mono ?_; rintro e w2' ⟨rfl, rfl⟩) | (go_at_call 12; refine (argB (w := w2') A2 c0 hn).mono ?_; rintro e w3 ⟨rfl, O3, B3⟩) | (go_at_call 14; refine (eqB n0 w1'.heap.size w2'.heap.size n0 n0 f0 w3 hn (O2.next B3).cell O3.cell).mono ?_; rintro e w4 ⟨rfl, q, rfl⟩))
  go_ret
  exact ⟨rfl, below_drewN ((B1.trans (B2.mono B1.size)).trans (B3.mono (Nat.le_trans B1.size B2.size))) q⟩

set_option maxRecDepth 100000 in
theorem lifted (os : Os) (started : os.Started) (H : Type) (enc : TypeId × Value → H) :
    ReturnsInHanded {} Try.checked os 4 .any (Rows.fnExactBallotOfSpec.pre6 enc Try.prog Try.f4 Rows.fnExactBallotOfRow.domain false) (Rows.fnExactBallotOfSpec.post enc Try.prog Try.f4 false true false false) := by
  refine returnsInHanded_of_change (C := Try.checked) own started (by kernel_rfl) Try.func4
    (ChangeSpec.witness6 (enc := enc) (C := Try.checked) false ⟨#[], #[.slice none 0 0], []⟩ 8 (by kernel_rfl) (by kernel_rfl) (by kernel_rfl) (by kernel_rfl)) ?_
  intro W base args ds gs before hval0 hW hcnd _
  have hval : ∀ (j : Nat) t v, Try.f4.params[j]? = some t → args[j]? = some v → Value.okWide Try.prog W .any base t v := hval0
  have hW' := hW
  obtain ⟨p, q, hA0, hV, rfl, hfz, hnd⟩ := hW
  have hA : DataW.TrodAll enc Try.prog W 0 (fun _ => true) true Try.f4.params.toList args.toList ds p := hA0
  rw [Try.params4] at hA hval
  obtain ⟨v0, vs0, d0, ds0, p0, q0, hargs, rfl, rfl, h0, r0⟩ := trodAll_cons hA
  obtain ⟨rfl, rfl, rfl⟩ := trodAll_nil r0
  obtain rfl : args = #[v0] := by cases args; simp_all
  obtain ⟨rfl, rfl⟩ := trodVars_none hV
  simp only [List.append_nil] at hW'
  have k0 := h0
  have lt0 : ∀ x ∈ p0, x.block < W.heap.size := fun x hx => by have := hW'.lt x (by simp [hx]); simpa using this
  obtain ⟨s0, n0, c0, f0, rfl, m0, A0⟩ := view_bools Try.underlying23 Try.underlying4 (by kernel_rfl) (hval 0 23 v0 rfl rfl) h0 lt0
  have arg0 : ∀ (W' : World), Below W.heap.size W W' → DataW.Trod enc Try.prog W' 0 (fun b => decide (b < W.heap.size)) true 23 (.slice s0 n0 c0) d0 p0 := fun W' hn => Below.trod laidOut (by kernel_rfl) (of_decide_eq_true (by kernel_rfl)) k0 hn lt0
  clear hA0 hval0
  refine (walk W s0 n0 c0 f0 m0 A0).mono fun e W' ⟨he, hg⟩ => ?_
  subst he
  refine ⟨_, rfl, _, _, _, [], p0 ++ [], [], hW', (trodAll_cons_mk (shut_bool Try.underlying4 _) trodAll_mk0), (trodAll_cons_mk (arg0 _ hg) trodAll_mk0), rfl, hg.frame _, fun h => by cases h⟩
theorem over : Rows.fnExactBallotOfRow.holds Try.pinned (OpenSpec.ofChange Rows.fnExactBallotOfSpec) :=
  OpenClaim.holds_of_wide 4 Try.f4 rfl rfl rfl rfl rfl rfl rfl ⟨rfl, rfl, rfl, rfl, rfl⟩ rfl rfl rfl rfl rfl (by kernel_rfl) Try.func4 (by kernel_rfl)
    (of_decide_eq_true (by kernel_rfl)) (by unfold Func.isWrapper; first | (rw [if_pos (by decide +kernel)]; kernel_rfl) | (rw [if_neg (by decide +kernel)]; exact ⟨rfl, rfl⟩))
    (fun os started H enc _ => lifted os started H enc)
end Go.Proofs.Ytlcfpcapefeajaa.fnExactBallotOf
namespace Go.Proofs.Ytlcfpcapefeajaa
theorem ballot_of_holds : Rows.FnExactBallotOfSaid := fnExactBallotOf.over
#print axioms ballot_of_holds
end Go.Proofs.Ytlcfpcapefeajaa
