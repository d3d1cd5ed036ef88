/- GoodColor answers as its model at every four whole numbers. No conditions. -/
import Derived.Test.YtfhnfgjffekmiaaRows
import Derived.Test.YtfhnfgjffekmiaaAb
namespace Go.Proofs.Ytfhnfgjffekmiaa.fnExactGoodColor
open Go.ChangeShapes Go.WideShapes Go.ChangeAt Go.RowKit
set_option linter.unusedVariables false
theorem own : ownKnob Try.prog.godebug = none := by kernel_rfl
theorem laidOut : laidOutB Try.prog = true := by kernel_rfl

set_option maxRecDepth 100000 in
set_option maxHeartbeats 8000000 in
theorem walk (w : World) (kr kg kb ka : Int) :
    Calls Try.prog 3 #[.agg #[.int .i64 kr, .int .i64 kg, .int .i64 kb, .int .i64 ka]] w fun e w' => e = .returned (.bool true) ∧ Below w.heap.size w w' := by
  have HT : Hid (∀ w', Calls Try.prog 12 #[.agg #[.int .i64 kr, .int .i64 kg, .int .i64 kb, .int .i64 ka]] w' fun e w'' => e = .returned (.agg #[.int .i64 kr, .int .i64 kg, .int .i64 kb, .int .i64 ka]) ∧ Below w'.heap.size w' w'') := fun w' => toK kr kg kb ka w'
  have HM : Hid (∀ w', Calls Try.prog 11 #[.agg #[.int .i64 kr, .int .i64 kg, .int .i64 kb, .int .i64 ka]] w' fun e w'' => e = .returned (.bool (gdC kr kg kb ka)) ∧ Below w'.heap.size w' w'') := fun w' => good11 kr kg kb ka w'
  have HP : Hid (∀ w', Calls Try.prog 13 #[.agg #[.int .i64 kr, .int .i64 kg, .int .i64 kb, .int .i64 ka]] w' fun e w'' => e = .returned (.bool (gdC kr kg kb ka)) ∧ Below w'.heap.size w' w'') := fun w' => good13 kr kg kb ka w'
  have HC : Hid (∀ w', Below (w.alloc (.cells #[.int .i64 kr, .int .i64 kg, .int .i64 kb, .int .i64 ka] 23)).heap.size (w.alloc (.cells #[.int .i64 kr, .int .i64 kg, .int .i64 kb, .int .i64 ka] 23)) w' → C4 w' w.heap.size (.int .i64 kr) (.int .i64 kg) (.int .i64 kb) (.int .i64 ka) ∧ Below w.heap.size w w') := fun w' b => ⟨(C4.new w 23 _ _ _ _).next b, alloc_b.trans (b.mono (by simp))⟩
  generalize gdC kr kg kb ka = GB at HM HP
  cases GB
  all_goals
    go_enter Try.func3, Try.ntmps3
    go_wp2_with (first | (go_at_call 12; (with_reducible show Calls Try.prog 12 _ (w.alloc (.cells #[.int .i64 kr, .int .i64 kg, .int .i64 kb, .int .i64 ka] 23)) _); refine (HT.out _).mono ?_; rintro e w2 ⟨rfl, B2⟩) | (go_at_call 11; refine (HM.out w2).mono ?_; rintro e w3 ⟨rfl, B3⟩; (obtain ⟨C3, D3⟩ := HC.out w3 (B2.trans (B3.mono B2.size))); (have q0 := C3.c0); (have q1 := C3.c1); (have q2 := C3.c2); (have q3 := C3.c3)) | (go_at_call 12; (with_reducible show Calls Try.prog 12 _ w3 _); refine (HT.out _).mono ?_; rintro e w4 ⟨rfl, B4⟩) | (go_at_call 13; refine (HP.out w4).mono ?_; rintro e w5 ⟨rfl, B5⟩))
    go_ret
    exact ⟨rfl, D3.trans ((B4.trans (B5.mono B4.size)).mono D3.size)⟩

set_option maxRecDepth 100000 in
theorem lifted (os : Os) (started : os.Started) (H : Type) (enc : TypeId × Value → H) :
    ReturnsInHanded {} Try.checked os 3 .any (Rows.fnExactGoodColorSpec.pre6 enc Try.prog Try.f3 Rows.fnExactGoodColorRow.domain false) (Rows.fnExactGoodColorSpec.post enc Try.prog Try.f3 false true false false) := by
  refine returnsInHanded_of_change (C := Try.checked) own started (by kernel_rfl) Try.func3
    (ChangeSpec.witness6 (enc := enc) (C := Try.checked) false ⟨#[], #[.agg #[.int .i64 0, .int .i64 0, .int .i64 0, .int .i64 0]], []⟩ 8 (by kernel_rfl) (by kernel_rfl) (by kernel_rfl) (by kernel_rfl)) ?_
  intro W base args ds gs before hval0 hW hcnd _
  have hval : ∀ (j : Nat) t v, Try.f3.params[j]? = some t → args[j]? = some v → Value.okWide Try.prog W .any base t v := hval0
  have hW' := hW
  obtain ⟨p, q, hA0, hV, rfl, hfz, hnd⟩ := hW
  have hA : DataW.TrodAll enc Try.prog W 0 (fun _ => true) true Try.f3.params.toList args.toList ds p := hA0
  rw [Try.params3] at hA hval
  obtain ⟨v0, vs0, d0, ds0, p0, q0, hargs, rfl, rfl, h0, r0⟩ := trodAll_cons hA
  obtain ⟨rfl, rfl, rfl⟩ := trodAll_nil r0
  obtain rfl : args = #[v0] := by cases args; simp_all
  obtain ⟨rfl, rfl⟩ := trodVars_none hV
  simp only [List.append_nil] at hW'
  have k0 := h0
  have lt0 : ∀ x ∈ p0, x.block < W.heap.size := fun x hx => by have := hW'.lt x (by simp [hx]); simpa using this
  obtain ⟨kr, kg, kb, ka, rfl⟩ := viewK Try.underlying23 (by kernel_rfl) rfl rfl rfl rfl (by kernel_rfl) (by kernel_rfl) (by kernel_rfl) (by kernel_rfl) Try.underlying3 Try.underlying3 Try.underlying3 Try.underlying3 (hval 0 23 v0 rfl rfl) h0
  have arg0 : ∀ (W' : World), Below W.heap.size W W' → DataW.Trod enc Try.prog W' 0 (fun b => decide (b < W.heap.size)) true 23 (.agg #[.int .i64 kr, .int .i64 kg, .int .i64 kb, .int .i64 ka]) d0 p0 := fun W' hn => Below.trod laidOut (by kernel_rfl) (of_decide_eq_true (by kernel_rfl)) k0 hn lt0
  clear hA0 hval0
  refine (walk W kr kg kb ka).mono fun e W' ⟨he, hg⟩ => ?_
  subst he
  refine ⟨_, rfl, _, _, _, [], p0 ++ [], [], hW', (trodAll_cons_mk (shut_bool Try.underlying4 _) trodAll_mk0), (trodAll_cons_mk (arg0 _ hg) trodAll_mk0), rfl, hg.frame _, fun h => by cases h⟩
theorem over : Rows.fnExactGoodColorRow.holds Try.pinned (OpenSpec.ofChange Rows.fnExactGoodColorSpec) :=
  OpenClaim.holds_of_wide 3 Try.f3 rfl rfl rfl rfl rfl rfl rfl ⟨rfl, rfl, rfl, rfl, rfl⟩ rfl rfl rfl rfl rfl (by kernel_rfl) Try.func3 (by kernel_rfl)
    (of_decide_eq_true (by kernel_rfl)) (by unfold Func.isWrapper; first | (rw [if_pos (by decide +kernel)]; kernel_rfl) | (rw [if_neg (by decide +kernel)]; exact ⟨rfl, rfl⟩))
    (fun os started H enc _ => lifted os started H enc)
end Go.Proofs.Ytfhnfgjffekmiaa.fnExactGoodColor
namespace Go.Proofs.Ytfhnfgjffekmiaa
theorem goodColor : Rows.FnExactGoodColorSaid := fnExactGoodColor.over
#print axioms goodColor
end Go.Proofs.Ytfhnfgjffekmiaa
