/- GoodCommand answers as its model at every command of five whole numbers. No conditions. -/
import Derived.Test.YtnbpncjbfnhkjaaRows
import Derived.Test.YtnbpncjbfnhkjaaVc
namespace Go.Proofs.Ytnbpncjbfnhkjaa.fnExactGoodCommand
open Go.ChangeShapes Go.WideShapes Go.ChangeAt Go.RowKit
set_option linter.unusedVariables false
theorem own : ownKnob Try.prog.godebug = none := by kernel_rfl
theorem laidOut : laidOutB Try.prog = true := by kernel_rfl

set_option maxRecDepth 100000 in
set_option maxHeartbeats 8000000 in
theorem walk (w : World) (k t f o m : Int) :
    Calls Try.prog 4 #[.agg #[.int .i64 k, .int .i64 t, .int .i64 f, .int .i64 o, .int .i64 m]] w fun e w' => e = .returned (.bool true) ∧ Below w.heap.size w w' := by
  have HT : Hid (∀ v, Calls Try.prog 15 #[.agg #[.int .i64 k, .int .i64 t, .int .i64 f, .int .i64 o, .int .i64 m]] v fun e w'' => e = .returned (.agg #[.int .i64 k, .int .i64 t, .int .i64 f, .int .i64 o, .int .i64 m]) ∧ Below v.heap.size v w'') := fun v => toOneC k t f o m v
  have HM : Hid (∀ v, Calls Try.prog 14 #[.agg #[.int .i64 k, .int .i64 t, .int .i64 f, .int .i64 o, .int .i64 m]] v fun e w'' => e = .returned (.bool (gcB k t f o m)) ∧ Below v.heap.size v w'') := fun v => mgc k t f o m v
  have HP : Hid (∀ v, Calls Try.prog 16 #[.agg #[.int .i64 k, .int .i64 t, .int .i64 f, .int .i64 o, .int .i64 m]] v fun e w'' => e = .returned (.bool (gcB k t f o m)) ∧ Below v.heap.size v w'') := fun v => pgc k t f o m v
  have HW : Hid (∀ w', Below (w.alloc (.cells #[.int .i64 k, .int .i64 t, .int .i64 f, .int .i64 o, .int .i64 m] 33)).heap.size (w.alloc (.cells #[.int .i64 k, .int .i64 t, .int .i64 f, .int .i64 o, .int .i64 m] 33)) w' → (w'.cell? ⟨w.heap.size, 0, none⟩ = some (.int .i64 k) ∧ w'.cell? ⟨w.heap.size, 1, none⟩ = some (.int .i64 t) ∧ w'.cell? ⟨w.heap.size, 2, none⟩ = some (.int .i64 f) ∧ w'.cell? ⟨w.heap.size, 3, none⟩ = some (.int .i64 o) ∧ w'.cell? ⟨w.heap.size, 4, none⟩ = some (.int .i64 m)) ∧ Below w.heap.size w w') := fun w' b => ⟨⟨cell_nx (by simp) b, cell_nx (by simp) b, cell_nx (by simp) b, cell_nx (by simp) b, cell_nx (by simp) b⟩, alloc_b.trans (b.mono (by simp))⟩
  generalize gcB k t f o m = X at HM HP
  cases X
  all_goals
    go_enter Try.func4, Try.ntmps4
    go_wp2_with (first
      | (go_at_call 15; (with_reducible show Calls Try.prog 15 #[_] (w.alloc (.cells #[.int .i64 k, .int .i64 t, .int .i64 f, .int .i64 o, .int .i64 m] 33)) _); refine (HT.out _).mono ?_; rintro e w2 ⟨rfl, B2⟩)
      | (go_at_call 14; refine (HM.out w2).mono ?_; rintro e w3 ⟨rfl, B3⟩; obtain ⟨⟨p0, p1, p2, p3, p4⟩, D3⟩ := HW.out _ (B2.trans (B3.mono B2.size)))
      | (go_at_call 15; (with_reducible show Calls Try.prog 15 #[_] w3 _); refine (HT.out _).mono ?_; rintro e w4 ⟨rfl, B4⟩)
      | (go_at_call 16; refine (HP.out w4).mono ?_; rintro e w5 ⟨rfl, B5⟩))
    go_ret
    exact ⟨rfl, D3.trans ((B4.trans (B5.mono B4.size)).mono D3.size)⟩

set_option maxRecDepth 100000 in
theorem lifted (os : Os) (started : os.Started) (H : Type) (enc : TypeId × Value → H) :
    ReturnsInHanded {} Try.checked os 4 .any (Rows.fnExactGoodCommandSpec.pre6 enc Try.prog Try.f4 Rows.fnExactGoodCommandRow.domain false) (Rows.fnExactGoodCommandSpec.post enc Try.prog Try.f4 false true false false) := by
  refine returnsInHanded_of_change (C := Try.checked) own started (by kernel_rfl) Try.func4
    (ChangeSpec.witness6 (enc := enc) (C := Try.checked) false ⟨#[], #[.agg #[.int .i64 0, .int .i64 0, .int .i64 0, .int .i64 0, .int .i64 0]], []⟩ 8 (by kernel_rfl) (by kernel_rfl) (by kernel_rfl) (by kernel_rfl)) ?_
  intro W base args ds gs before hval0 hW hcnd _
  have hval : ∀ (j : Nat) t v, Try.f4.params[j]? = some t → args[j]? = some v → Value.okWide Try.prog W .any base t v := hval0
  have hW' := hW
  obtain ⟨p, q, hA0, hV, rfl, hfz, hnd⟩ := hW
  have hA : DataW.TrodAll enc Try.prog W 0 (fun _ => true) true Try.f4.params.toList args.toList ds p := hA0
  rw [Try.params4] at hA hval
  obtain ⟨v0, vs0, d0, ds0, p0, q0, hargs, rfl, rfl, h0, r0⟩ := trodAll_cons hA
  obtain ⟨rfl, rfl, rfl⟩ := trodAll_nil r0
  obtain rfl : args = #[v0] := by cases args; simp_all
  obtain ⟨rfl, rfl⟩ := trodVars_none hV
  simp only [List.append_nil] at hW'
  have k0 := h0
  have lt0 : ∀ x ∈ p0, x.block < W.heap.size := fun x hx => by have := hW'.lt x (by simp [hx]); simpa using this
  obtain ⟨k, t, f, o, m, rfl⟩ := view5 Try.underlying33 (by kernel_rfl) rfl rfl rfl rfl rfl (by kernel_rfl) (by kernel_rfl) (by kernel_rfl) (by kernel_rfl) (by kernel_rfl) Try.underlying3 Try.underlying3 Try.underlying3 Try.underlying3 Try.underlying3 (hval 0 33 v0 rfl rfl) h0
  have arg0 : ∀ (W' : World), Below W.heap.size W W' → DataW.Trod enc Try.prog W' 0 (fun b => decide (b < W.heap.size)) true 33 (.agg #[.int .i64 k, .int .i64 t, .int .i64 f, .int .i64 o, .int .i64 m]) d0 p0 := fun W' hn => Below.trod laidOut (by kernel_rfl) (of_decide_eq_true (by kernel_rfl)) k0 hn lt0
  clear hA0 hval0
  refine (walk W k t f o m).mono fun e W' ⟨he, hg⟩ => ?_
  subst he
  refine ⟨_, rfl, _, _, _, [], p0 ++ [], [], hW', (trodAll_cons_mk (shut_bool Try.underlying4 _) trodAll_mk0), (trodAll_cons_mk (arg0 _ hg) trodAll_mk0), rfl, hg.frame _, fun h => by cases h⟩
theorem over : Rows.fnExactGoodCommandRow.holds Try.pinned (OpenSpec.ofChange Rows.fnExactGoodCommandSpec) :=
  OpenClaim.holds_of_wide 4 Try.f4 rfl rfl rfl rfl rfl rfl rfl ⟨rfl, rfl, rfl, rfl, rfl⟩ rfl rfl rfl rfl rfl (by kernel_rfl) Try.func4 (by kernel_rfl)
    (of_decide_eq_true (by kernel_rfl)) (by unfold Func.isWrapper; first | (rw [if_pos (by decide +kernel)]; kernel_rfl) | (rw [if_neg (by decide +kernel)]; exact ⟨rfl, rfl⟩))
    (fun os started H enc _ => lifted os started H enc)
end Go.Proofs.Ytnbpncjbfnhkjaa.fnExactGoodCommand
namespace Go.Proofs.Ytnbpncjbfnhkjaa
theorem goodCommand : Rows.FnExactGoodCommandSaid := fnExactGoodCommand.over
#print axioms goodCommand
end Go.Proofs.Ytnbpncjbfnhkjaa
