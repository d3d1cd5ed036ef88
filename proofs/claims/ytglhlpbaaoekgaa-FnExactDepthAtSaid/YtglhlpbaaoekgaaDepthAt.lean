/- DepthAt answers as its model at every tri of thirteen whole numbers and every point. No conditions. -/
import Derived.Test.YtglhlpbaaoekgaaRows
import Derived.Test.YtglhlpbaaoekgaaCn
namespace Go.Proofs.Ytglhlpbaaoekgaa.fnExactDepthAt
open Go.ChangeShapes Go.WideShapes Go.ChangeAt Go.RowKit
set_option linter.unusedVariables false
theorem own : ownKnob Try.prog.godebug = none := by kernel_rfl
theorem laidOut : laidOutB Try.prog = true := by kernel_rfl

set_option maxRecDepth 100000 in
set_option maxHeartbeats 8000000 in
theorem walk (w : World) (ux uy uz vx vy vz sx sy sz kr kg kb ka : Int) (a1 : Int) (w1 : (Lit.int .i64 a1).wf = true) (a2 : Int) (w2 : (Lit.int .i64 a2).wf = true) :
    Calls Try.prog 8 #[.agg #[.int .i64 ux, .int .i64 uy, .int .i64 uz, .int .i64 vx, .int .i64 vy, .int .i64 vz, .int .i64 sx, .int .i64 sy, .int .i64 sz, .int .i64 kr, .int .i64 kg, .int .i64 kb, .int .i64 ka], .int .i64 a1, .int .i64 a2] w fun e w' => e = .returned (.bool true) ∧ Below w.heap.size w w' := by
  have HW : Hid (∀ w', Below (w.alloc (.cells #[.int .i64 ux, .int .i64 uy, .int .i64 uz, .int .i64 vx, .int .i64 vy, .int .i64 vz, .int .i64 sx, .int .i64 sy, .int .i64 sz, .int .i64 kr, .int .i64 kg, .int .i64 kb, .int .i64 ka] 43)).heap.size (w.alloc (.cells #[.int .i64 ux, .int .i64 uy, .int .i64 uz, .int .i64 vx, .int .i64 vy, .int .i64 vz, .int .i64 sx, .int .i64 sy, .int .i64 sz, .int .i64 kr, .int .i64 kg, .int .i64 kb, .int .i64 ka] 43)) w' → C13 w' w.heap.size (.int .i64 ux) (.int .i64 uy) (.int .i64 uz) (.int .i64 vx) (.int .i64 vy) (.int .i64 vz) (.int .i64 sx) (.int .i64 sy) (.int .i64 sz) (.int .i64 kr) (.int .i64 kg) (.int .i64 kb) (.int .i64 ka) ∧ Below w.heap.size w w') := fun w' b => ⟨(C13.new w 43 (.int .i64 ux) (.int .i64 uy) (.int .i64 uz) (.int .i64 vx) (.int .i64 vy) (.int .i64 vz) (.int .i64 sx) (.int .i64 sy) (.int .i64 sz) (.int .i64 kr) (.int .i64 kg) (.int .i64 kb) (.int .i64 ka)).next b, alloc_b.trans (b.mono (by simp))⟩
  have HT : Hid (∀ w', Calls Try.prog 21 #[.agg #[.int .i64 ux, .int .i64 uy, .int .i64 uz, .int .i64 vx, .int .i64 vy, .int .i64 vz, .int .i64 sx, .int .i64 sy, .int .i64 sz, .int .i64 kr, .int .i64 kg, .int .i64 kb, .int .i64 ka]] w' fun e w'' => e = .returned (.agg #[.int .i64 ux, .int .i64 uy, .int .i64 uz, .int .i64 vx, .int .i64 vy, .int .i64 vz, .int .i64 sx, .int .i64 sy, .int .i64 sz, .int .i64 kr, .int .i64 kg, .int .i64 kb, .int .i64 ka]) ∧ Below w'.heap.size w' w'') := fun w' => toT ux uy uz vx vy vz sx sy sz kr kg kb ka w'
  have HM : Hid (∀ w', Calls Try.prog 29 #[.agg #[.int .i64 ux, .int .i64 uy, .int .i64 uz, .int .i64 vx, .int .i64 vy, .int .i64 vz, .int .i64 sx, .int .i64 sy, .int .i64 sz, .int .i64 kr, .int .i64 kg, .int .i64 kb, .int .i64 ka], .int .i64 a1, .int .i64 a2] w' fun e w'' => e = .returned (.tuple #[.int .i64 (dpV ux uy uz vx vy vz sx sy sz kr kg kb ka a1 a2), .bool (dpB ux uy uz vx vy vz sx sy sz kr kg kb ka a1 a2)]) ∧ Below w'.heap.size w' w'') := fun w' => mdp ux uy uz vx vy vz sx sy sz kr kg kb ka a1 a2 w'
  have HP : Hid (∀ w', Calls Try.prog 30 #[.agg #[.int .i64 ux, .int .i64 uy, .int .i64 uz, .int .i64 vx, .int .i64 vy, .int .i64 vz, .int .i64 sx, .int .i64 sy, .int .i64 sz, .int .i64 kr, .int .i64 kg, .int .i64 kb, .int .i64 ka], .int .i64 a1, .int .i64 a2] w' fun e w'' => e = .returned (.tuple #[.int .i64 (dpV ux uy uz vx vy vz sx sy sz kr kg kb ka a1 a2), .bool (dpB ux uy uz vx vy vz sx sy sz kr kg kb ka a1 a2)]) ∧ Below w'.heap.size w' w'') := fun w' => pdp ux uy uz vx vy vz sx sy sz kr kg kb ka a1 a2 w'
  generalize dpV ux uy uz vx vy vz sx sy sz kr kg kb ka a1 a2 = Y at HM HP
  generalize dpB ux uy uz vx vy vz sx sy sz kr kg kb ka a1 a2 = X at HM HP
  cases X
  all_goals
    go_enter Try.func8, Try.ntmps8
    go_wp2_with (first
      | (go_at_call 21; (with_reducible show Calls Try.prog 21 #[_] (w.alloc (.cells #[.int .i64 ux, .int .i64 uy, .int .i64 uz, .int .i64 vx, .int .i64 vy, .int .i64 vz, .int .i64 sx, .int .i64 sy, .int .i64 sz, .int .i64 kr, .int .i64 kg, .int .i64 kb, .int .i64 ka] 43)) _); refine (HT.out _).mono ?_; rintro e w2 ⟨rfl, B2⟩)
      | (go_at_call 29; refine (HM.out w2).mono ?_; rintro e w3 ⟨rfl, B3⟩; obtain ⟨P3, D3⟩ := HW.out _ (B2.trans (B3.mono B2.size)); have p0 := P3.c0; have p1 := P3.c1; have p2 := P3.c2; have p3 := P3.c3; have p4 := P3.c4; have p5 := P3.c5; have p6 := P3.c6; have p7 := P3.c7; have p8 := P3.c8; have p9 := P3.c9; have p10 := P3.c10; have p11 := P3.c11; have p12 := P3.c12; have pf := P3.f)
      | (go_at_call 21; (with_reducible show Calls Try.prog 21 #[_] w3 _); refine (HT.out _).mono ?_; rintro e w4 ⟨rfl, B4⟩)
      | (go_at_call 30; refine (HP.out w4).mono ?_; rintro e w5 ⟨rfl, B5⟩))
    go_ret
    exact ⟨rfl, D3.trans ((B4.trans (B5.mono B4.size)).mono D3.size)⟩

set_option maxRecDepth 100000 in
theorem lifted (os : Os) (started : os.Started) (H : Type) (enc : TypeId × Value → H) :
    ReturnsInHanded {} Try.checked os 8 .any (Rows.fnExactDepthAtSpec.pre6 enc Try.prog Try.f8 Rows.fnExactDepthAtRow.domain false) (Rows.fnExactDepthAtSpec.post enc Try.prog Try.f8 false true false false) := by
  refine returnsInHanded_of_change (C := Try.checked) own started (by kernel_rfl) Try.func8
    (ChangeSpec.witness6 (enc := enc) (C := Try.checked) false ⟨#[], #[.agg #[.int .i64 0, .int .i64 0, .int .i64 0, .int .i64 0, .int .i64 0, .int .i64 0, .int .i64 0, .int .i64 0, .int .i64 0, .int .i64 0, .int .i64 0, .int .i64 0, .int .i64 0], .int .i64 0, .int .i64 0], []⟩ 8 (by kernel_rfl) (by kernel_rfl) (by kernel_rfl) (by kernel_rfl)) ?_
  intro W base args ds gs before hval0 hW hcnd _
  have hval : ∀ (j : Nat) t v, Try.f8.params[j]? = some t → args[j]? = some v → Value.okWide Try.prog W .any base t v := hval0
  have hW' := hW
  obtain ⟨p, q, hA0, hV, rfl, hfz, hnd⟩ := hW
  have hA : DataW.TrodAll enc Try.prog W 0 (fun _ => true) true Try.f8.params.toList args.toList ds p := hA0
  rw [Try.params8] at hA hval
  obtain ⟨v0, vs0, d0, ds0, p0, q0, hargs, rfl, rfl, h0, r0⟩ := trodAll_cons hA
  obtain ⟨v1, vs1, d1, ds1, p1, q1, rfl, rfl, rfl, h1, r1⟩ := trodAll_cons r0
  obtain ⟨v2, vs2, d2, ds2, p2, q2, rfl, rfl, rfl, h2, r2⟩ := trodAll_cons r1
  obtain ⟨rfl, rfl, rfl⟩ := trodAll_nil r2
  obtain rfl : args = #[v0, v1, v2] := by cases args; simp_all
  obtain ⟨rfl, rfl⟩ := trodVars_none hV
  simp only [List.append_nil] at hW'
  have k0 := h0
  have lt0 : ∀ x ∈ p0, x.block < W.heap.size := fun x hx => by have := hW'.lt x (by simp [hx]); simpa using this
  obtain ⟨ux, uy, uz, vx, vy, vz, sx, sy, sz, kr, kg, kb, ka, rfl⟩ := viewT (hval 0 43 v0 rfl rfl) h0
  have arg0 : ∀ (W' : World), Below W.heap.size W W' → DataW.Trod enc Try.prog W' 0 (fun b => decide (b < W.heap.size)) true 43 (.agg #[.int .i64 ux, .int .i64 uy, .int .i64 uz, .int .i64 vx, .int .i64 vy, .int .i64 vz, .int .i64 sx, .int .i64 sy, .int .i64 sz, .int .i64 kr, .int .i64 kg, .int .i64 kb, .int .i64 ka]) d0 p0 := fun W' hn => Below.trod laidOut (by kernel_rfl) (of_decide_eq_true (by kernel_rfl)) k0 hn lt0
  obtain ⟨a1, rfl, rfl, rfl, w1⟩ := open_int Try.underlying3 (hval 1 3 v1 rfl rfl) h1
  obtain ⟨a2, rfl, rfl, rfl, w2⟩ := open_int Try.underlying3 (hval 2 3 v2 rfl rfl) h2
  clear hA0 hval0
  refine (walk W ux uy uz vx vy vz sx sy sz kr kg kb ka a1 w1 a2 w2).mono fun e W' ⟨he, hg⟩ => ?_
  subst he
  refine ⟨_, rfl, _, _, _, [], p0 ++ ([] ++ ([] ++ [])), [], hW', (trodAll_cons_mk (shut_bool Try.underlying4 _) trodAll_mk0), (trodAll_cons_mk (arg0 _ hg) (trodAll_cons_mk (shut_int Try.underlying3 w1) (trodAll_cons_mk (shut_int Try.underlying3 w2) trodAll_mk0))), rfl, hg.frame _, fun h => by cases h⟩
theorem over : Rows.fnExactDepthAtRow.holds Try.pinned (OpenSpec.ofChange Rows.fnExactDepthAtSpec) :=
  OpenClaim.holds_of_wide 8 Try.f8 rfl rfl rfl rfl rfl rfl rfl ⟨rfl, rfl, rfl, rfl, rfl⟩ rfl rfl rfl rfl rfl (by kernel_rfl) Try.func8 (by kernel_rfl)
    (of_decide_eq_true (by kernel_rfl)) (by unfold Func.isWrapper; first | (rw [if_pos (by decide +kernel)]; kernel_rfl) | (rw [if_neg (by decide +kernel)]; exact ⟨rfl, rfl⟩))
    (fun os started H enc _ => lifted os started H enc)
end Go.Proofs.Ytglhlpbaaoekgaa.fnExactDepthAt
namespace Go.Proofs.Ytglhlpbaaoekgaa
theorem depthAt : Rows.FnExactDepthAtSaid := fnExactDepthAt.over
#print axioms depthAt
end Go.Proofs.Ytglhlpbaaoekgaa
