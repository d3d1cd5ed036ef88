/- LeastTurns answers as its model at every list of commands; it writes into none of them, and its answer owns its memory. No conditions. -/
import Derived.Test.YtnbpncjbfnhkjaaRows
import Derived.Test.YtnbpncjbfnhkjaaVm
namespace Go.Proofs.Ytnbpncjbfnhkjaa.fnExactLeastTurns
open Go.ChangeShapes Go.WideShapes Go.ChangeAt Go.RowKit
set_option linter.unusedVariables false
theorem own : ownKnob Try.prog.godebug = none := by kernel_rfl
theorem laidOut : laidOutB Try.prog = true := by kernel_rfl

set_option maxRecDepth 100000 in
set_option maxHeartbeats 8000000 in
theorem walk (w : World) (ad : Option Addr) (n c : Nat) (K T F O M : Nat → Int) (mn : n ≤ 9223372036854775807) (A : ArgC w ad n K T F O M) :
    Calls Try.prog 7 #[.slice ad n c] w fun e w' => e = .returned (.bool true) ∧ Below w.heap.size w w' := by
  have HS := Hid.mk (szC ad n c w mn)
  by_cases hn : n ≤ 1048576
  case neg =>
    rw [if_neg hn] at HS
    clear A
    go_enter Try.func7, Try.ntmps7
    go_wp2_with (go_at_call 17; refine HS.out.mono ?_; rintro e w1 ⟨rfl, hw⟩; subst w1)
    go_ret
    exact ⟨rfl, Below.refl _ _⟩
  rw [if_pos hn] at HS
  have HT : Hid (∀ v, Below w.heap.size w v → Calls Try.prog 18 #[.slice ad n c] v fun r w' => r = .returned (.slice (some ⟨v.heap.size, 0, none⟩) n n) ∧ RowC w' v.heap.size n K T F O M ∧ Below v.heap.size v w') := fun v b => argToC (A.next b) c hn
  have HM : Hid (∀ g v, RowC v g n K T F O M → Calls Try.prog 10 #[.slice (some ⟨g, 0, none⟩) n n] v fun e w' => (∃ x, e = .returned (.tuple #[x, .bool (ltB K T F O M n)]) ∧ CR v.heap.size w' x (ltR K T F O M n)) ∧ Below v.heap.size v w') := fun g v R => mlt _ n n K T F O M v R.arg (by omega)
  have HP : Hid (∀ g v, RowC v g n K T F O M → Calls Try.prog 9 #[.slice (some ⟨g, 0, none⟩) n n] v fun e w' => (∃ x, e = .returned (.tuple #[x, .bool (ltB K T F O M n)]) ∧ CR v.heap.size w' x (ltR K T F O M n)) ∧ Below v.heap.size v w') := fun g v R => plt _ n n K T F O M v R.arg (by omega)
  have HLL : Hid ((ltR K T F O M n).length ≤ 1048576) := by
    show _ ≤ _
    unfold ltR
    cases h : ltB K T F O M n
    · simp
    · have h2 : (ltL K T F O M n).length ≤ 60 := by unfold ltB at h; simp at h; exact h.2.2
      simp only [if_true]
      omega
  generalize ltR K T F O M n = LR at HM HP HLL
  generalize ltB K T F O M n = LB at HM HP
  have h1 : ¬ (1048576 : Int) - (n : Int) < 0 := by omega
  clear A
  cases LB
  all_goals
    go_enter Try.func7, Try.ntmps7
    go_wp2_with (first | (go_at_call 17; refine HS.out.mono ?_; rintro e w1 ⟨rfl, hw⟩; subst w1) | (go_at_call 18; (with_reducible show Calls Try.prog 18 _ w _); refine (HT.out w (Below.refl _ _)).mono ?_; rintro e w2 ⟨rfl, X2, B2⟩) | (go_at_call 10; refine (HM.out _ w2 X2).mono ?_; rintro e w3 ⟨⟨u, rfl, CU⟩, B3⟩; (have B03 : Below w.heap.size w w3 := B2.trans (B3.mono B2.size)); clear X2 B2 B3))
    obtain ⟨N, hN⟩ : ∃ N, LR.length = N := ⟨_, rfl⟩
    have HNN : Hid (N ≤ 1048576) := by rw [← hN]; exact HLL.out
    have U3 : Hid (RowCV w3 u N (atC0 LR) (atC1 LR) (atC2 LR) (atC3 LR) (atC4 LR)) := by rw [← hN]; exact CU.rowv
    have LU : Hid (∀ g, u.ownBlock = some g → g < w3.heap.size) := fun g hg => (CU.lt g hg).2
    clear CU
    go_wp2_with (first | (go_at_call 18; (with_reducible show Calls Try.prog 18 _ w3 _); refine (HT.out w3 B03).mono ?_; rintro e w4 ⟨rfl, X4, B4⟩) | (go_at_call 9; refine (HP.out _ w4 X4).mono ?_; rintro e w5 ⟨⟨v, rfl, CV⟩, B5⟩; (have B35 : Below w3.heap.size w3 w5 := B4.trans (B5.mono B4.size)); (have U5 : Hid (RowCV w5 u N (atC0 LR) (atC1 LR) (atC2 LR) (atC3 LR) (atC4 LR)) := U3.out.next B35); (have V5 : Hid (RowCV w5 v N (atC0 LR) (atC1 LR) (atC2 LR) (atC3 LR) (atC4 LR)) := by rw [← hN]; exact CV.rowv); (have LV : Hid (∀ g, v.ownBlock = some g → w3.heap.size < g) := fun g hg => Nat.lt_of_lt_of_le X4.hi (CV.lt g hg).1); (have Y5 : Hid (RowC w5 w3.heap.size n K T F O M) := X4.next B5); (have B05 : Below w.heap.size w w5 := B03.trans (B35.mono B03.size)); (have Z5 : Hid (w.heap.size ≤ w3.heap.size) := B03.size); clear X4 B4 B5 B35 U3 B03 CV) | (go_at_call 20; (with_reducible show Calls Try.prog 20 _ w5 _); refine (eqRowCV V5.out U5.out HNN.out).mono ?_; rintro e w6 ⟨rfl, B6⟩; (have U6 : Hid (RowCV w6 u N (atC0 LR) (atC1 LR) (atC2 LR) (atC3 LR) (atC4 LR)) := U5.out.next B6); (have V6 : Hid (RowCV w6 v N (atC0 LR) (atC1 LR) (atC2 LR) (atC3 LR) (atC4 LR)) := V5.out.next B6); (have Y6 : Hid (RowC w6 w3.heap.size n K T F O M) := Y5.out.next B6); (have B06 : Below w.heap.size w w6 := B05.trans (B6.mono B05.size)); clear U5 V5 Y5 B05 B6) | (go_at_call 18; (with_reducible show Calls Try.prog 18 _ w6 _); refine (HT.out w6 B06).mono ?_; rintro e w7 ⟨rfl, X7, B7⟩) | (go_at_call 20; (with_reducible show Calls Try.prog 20 _ w7 _); refine (eqRowC (Y6.out.next B7) X7 n n hn).mono ?_; rintro e w8 ⟨rfl, B8⟩; (have B68 : Below w6.heap.size w6 w8 := B7.trans (B8.mono B7.size)); (have U8 : Hid (RowCV w8 u N (atC0 LR) (atC1 LR) (atC2 LR) (atC3 LR) (atC4 LR)) := U6.out.next B68); (have V8 : Hid (RowCV w8 v N (atC0 LR) (atC1 LR) (atC2 LR) (atC3 LR) (atC4 LR)) := V6.out.next B68); (have Y8 : Hid (RowC w8 w3.heap.size n K T F O M) := Y6.out.next B68); (have B08 : Below w.heap.size w w8 := B06.trans (B68.mono B06.size)); clear U6 V6 Y6 B06 B68 B7 B8 X7))
    have hmk := markC Y8.out n hn
    have hs0 : ¬ ((1 + 5 * n : Nat) : Int) < 0 := by omega
    generalize ((1 + 5 * n : Nat) : Int) = sx at hmk hs0
    go_wp2_with (first | (go_at_call 28; (with_reducible show Calls Try.prog 28 _ w8 _); refine hmk.mono ?_; rintro e w9 ⟨rfl, -, O9⟩; (have G9 : w8.grownBy w9 (some w3.heap.size) := ⟨O9.os, O9.tape, O9.output, O9.size, fun k hk hne => O9.block k hk (fun e => hne (by rw [e]))⟩); (have U9 : Hid (RowCV w9 u N (atC0 LR) (atC1 LR) (atC2 LR) (atC3 LR) (atC4 LR)) := U8.out.grown G9 (by cases hu : u.ownBlock with | none => exact Or.inl rfl | some g => exact Or.inr (fun e => by have h1 := LU.out g hu; have h2 := Option.some.inj e; omega))); (have V9 : Hid (RowCV w9 v N (atC0 LR) (atC1 LR) (atC2 LR) (atC3 LR) (atC4 LR)) := V8.out.grown G9 (by cases hv : v.ownBlock with | none => exact Or.inl rfl | some g => exact Or.inr (fun e => by have h1 := LV.out g hv; have h2 := Option.some.inj e; omega))); (have B09 : Below w.heap.size w w9 := B08.trans (O9.below Z5.out B08.size)); clear U8 V8 Y8 B08 O9 G9 hmk) | (go_at_call 20; (with_reducible show Calls Try.prog 20 _ w9 _); refine (eqRowCV V9.out U9.out HNN.out).mono ?_; rintro e w10 ⟨rfl, B10⟩; (have U10 : Hid (RowCV w10 u N (atC0 LR) (atC1 LR) (atC2 LR) (atC3 LR) (atC4 LR)) := U9.out.next B10); (have V10 : Hid (RowCV w10 v N (atC0 LR) (atC1 LR) (atC2 LR) (atC3 LR) (atC4 LR)) := V9.out.next B10); (have B010 : Below w.heap.size w w10 := B09.trans (B10.mono B09.size)); clear U9 V9 B09 B10; skip))
    have hm1 := markCV V10.out HNN.out
    have H22 : Hid (∀ z, RowCV z v N mkC0 mkC1 mkC2 mkC3 mkC4 → Calls Try.prog 29 #[v, .int .i64 1] z fun r w' => r = .returned (.int .i64 ((1 + 5 * N : Nat) : Int)) ∧ Below z.heap.size z w') := fun z R => heldCV R HNN.out
    have hs1 : ¬ ((1 + 5 * N : Nat) : Int) < 0 := by omega
    generalize ((1 + 5 * N : Nat) : Int) = sy at hm1 H22 hs1
    go_wp2_with (first | (go_at_call 28; (with_reducible show Calls Try.prog 28 _ w10 _); refine hm1.mono ?_; rintro e w11 ⟨rfl, V11, G11⟩; (have U11 : Hid (RowCV w11 u N (atC0 LR) (atC1 LR) (atC2 LR) (atC3 LR) (atC4 LR)) := U10.out.grown G11 (by cases hu : u.ownBlock with | none => exact Or.inl rfl | some g => exact Or.inr (fun e => by have h1 := LU.out g hu; have h2 := LV.out g e.symm; omega))); (have B011 : Below w.heap.size w w11 := below_grown B010 B010.size G11 (fun g hg => by have h1 := LV.out g hg; have h2 := Z5.out; omega)); clear U10 V10 G11 hm1 B010) | (go_at_call 29; (with_reducible show Calls Try.prog 29 _ w11 _); refine (H22.out w11 V11).mono ?_; rintro e w12 ⟨rfl, B12⟩; (have U12 : Hid (RowCV w12 u N (atC0 LR) (atC1 LR) (atC2 LR) (atC3 LR) (atC4 LR)) := U11.out.next B12); (have V12 : Hid (RowCV w12 v N mkC0 mkC1 mkC2 mkC3 mkC4) := V11.next B12); (have B012 : Below w.heap.size w w12 := B011.trans (B12.mono B011.size)); clear U11 V11 B011 B12) | (go_at_call 18; (with_reducible show Calls Try.prog 18 _ w12 _); refine (HT.out w12 B012).mono ?_; rintro e w13 ⟨rfl, X13, B13⟩) | (go_at_call 9; refine (HP.out _ w13 X13).mono ?_; rintro e w14 ⟨⟨h, rfl, CH⟩, B14⟩; (have B1214 : Below w12.heap.size w12 w14 := B13.trans (B14.mono B13.size)); (have U14 : Hid (RowCV w14 u N (atC0 LR) (atC1 LR) (atC2 LR) (atC3 LR) (atC4 LR)) := U12.out.next B1214); (have V14 : Hid (RowCV w14 v N mkC0 mkC1 mkC2 mkC3 mkC4) := V12.out.next B1214); (have H14 : Hid (RowCV w14 h N (atC0 LR) (atC1 LR) (atC2 LR) (atC3 LR) (atC4 LR)) := by rw [← hN]; exact CH.rowv); (have B014 : Below w.heap.size w w14 := B012.trans (B1214.mono B012.size)); clear U12 V12 B012 B1214 B13 B14 X13 CH) | (go_at_call 20; (with_reducible show Calls Try.prog 20 _ w14 _); refine (eqRowCV H14.out U14.out HNN.out).mono ?_; rintro e w15 ⟨rfl, B15⟩; (have V15 : Hid (RowCV w15 v N mkC0 mkC1 mkC2 mkC3 mkC4) := V14.out.next B15); (have B015 : Below w.heap.size w w15 := B014.trans (B15.mono B014.size)); clear U14 V14 H14 B014 B15) | (go_at_call 29; (with_reducible show Calls Try.prog 29 _ w15 _); refine (H22.out w15 V15.out).mono ?_; rintro e w16 ⟨rfl, B16⟩))
    go_ret
    exact ⟨rfl, B015.trans (B16.mono B015.size)⟩

set_option maxRecDepth 100000 in
theorem lifted (os : Os) (started : os.Started) (H : Type) (enc : TypeId × Value → H) :
    ReturnsInHanded {} Try.checked os 7 .any (Rows.fnExactLeastTurnsSpec.pre6 enc Try.prog Try.f7 Rows.fnExactLeastTurnsRow.domain false) (Rows.fnExactLeastTurnsSpec.post enc Try.prog Try.f7 false true false false) := by
  refine returnsInHanded_of_change (C := Try.checked) own started (by kernel_rfl) Try.func7
    (ChangeSpec.witness6 (enc := enc) (C := Try.checked) false ⟨#[], #[.slice none 0 0], []⟩ 8 (by kernel_rfl) (by kernel_rfl) (by kernel_rfl) (by kernel_rfl)) ?_
  intro W base args ds gs before hval0 hW hcnd _
  have hval : ∀ (j : Nat) t v, Try.f7.params[j]? = some t → args[j]? = some v → Value.okWide Try.prog W .any base t v := hval0
  have hW' := hW
  obtain ⟨p, q, hA0, hV, rfl, hfz, hnd⟩ := hW
  have hA : DataW.TrodAll enc Try.prog W 0 (fun _ => true) true Try.f7.params.toList args.toList ds p := hA0
  rw [Try.params7] at hA hval
  obtain ⟨v0, vs0, d0, ds0, p0, q0, hargs, rfl, rfl, h0, r0⟩ := trodAll_cons hA
  obtain ⟨rfl, rfl, rfl⟩ := trodAll_nil r0
  obtain rfl : args = #[v0] := by cases args; simp_all
  obtain ⟨rfl, rfl⟩ := trodVars_none hV
  simp only [List.append_nil] at hW'
  have k0 := h0
  have lt0 : ∀ x ∈ p0, x.block < W.heap.size := fun x hx => by have := hW'.lt x (by simp [hx]); simpa using this
  obtain ⟨ad, n, c, K, T, F, O, M, rfl, mn, A, -, -, -, -, -⟩ := viewC Try.underlying38 Try.underlying33 (by kernel_rfl) rfl rfl rfl rfl rfl (by kernel_rfl) (by kernel_rfl) (by kernel_rfl) (by kernel_rfl) (by kernel_rfl) Try.underlying3 Try.underlying3 Try.underlying3 Try.underlying3 Try.underlying3 (hval 0 38 v0 rfl rfl) h0 lt0
  have arg0 : ∀ (W' : World), Below W.heap.size W W' → DataW.Trod enc Try.prog W' 0 (fun b => decide (b < W.heap.size)) true 38 (.slice ad n c) d0 p0 := fun W' hn => Below.trod laidOut (by kernel_rfl) (of_decide_eq_true (by kernel_rfl)) k0 hn lt0
  clear hA0 hval0
  refine (walk W ad n c K T F O M mn A).mono fun e W' ⟨he, hg⟩ => ?_
  subst he
  refine ⟨_, rfl, _, _, _, [], p0 ++ [], [], hW', (trodAll_cons_mk (shut_bool Try.underlying4 _) trodAll_mk0), (trodAll_cons_mk (arg0 _ hg) trodAll_mk0), rfl, hg.frame _, fun h => by cases h⟩
theorem over : Rows.fnExactLeastTurnsRow.holds Try.pinned (OpenSpec.ofChange Rows.fnExactLeastTurnsSpec) :=
  OpenClaim.holds_of_wide 7 Try.f7 rfl rfl rfl rfl rfl rfl rfl ⟨rfl, rfl, rfl, rfl, rfl⟩ rfl rfl rfl rfl rfl (by kernel_rfl) Try.func7 (by kernel_rfl)
    (of_decide_eq_true (by kernel_rfl)) (by unfold Func.isWrapper; first | (rw [if_pos (by decide +kernel)]; kernel_rfl) | (rw [if_neg (by decide +kernel)]; exact ⟨rfl, rfl⟩))
    (fun os started H enc _ => lifted os started H enc)
end Go.Proofs.Ytnbpncjbfnhkjaa.fnExactLeastTurns
namespace Go.Proofs.Ytnbpncjbfnhkjaa
theorem leastTurns : Rows.FnExactLeastTurnsSaid := fnExactLeastTurns.over
#print axioms leastTurns
end Go.Proofs.Ytnbpncjbfnhkjaa
