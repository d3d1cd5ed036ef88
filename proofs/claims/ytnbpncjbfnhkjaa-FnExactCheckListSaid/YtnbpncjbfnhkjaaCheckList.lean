/- CheckList answers as its model at every list of commands, and writes into none of them. No conditions. -/
import Derived.Test.YtnbpncjbfnhkjaaRows
import Derived.Test.YtnbpncjbfnhkjaaVj
namespace Go.Proofs.Ytnbpncjbfnhkjaa.fnExactCheckList
open Go.ChangeShapes Go.WideShapes Go.ChangeAt Go.RowKit
set_option linter.unusedVariables false
theorem own : ownKnob Try.prog.godebug = none := by kernel_rfl
theorem laidOut : laidOutB Try.prog = true := by kernel_rfl

set_option maxRecDepth 100000 in
set_option maxHeartbeats 8000000 in
theorem walk (w : World) (ad : Option Addr) (n c : Nat) (K T F O M : Nat → Int) (mn : n ≤ 9223372036854775807) (A : ArgC w ad n K T F O M) :
    Calls Try.prog 5 #[.slice ad n c] w fun e w' => e = .returned (.bool true) ∧ Below w.heap.size w w' := by
  have HS := Hid.mk (szC ad n c w mn)
  by_cases hn : n ≤ 1048576
  case neg =>
    rw [if_neg hn] at HS
    clear A
    go_enter Try.func5, Try.ntmps5
    go_wp2_with (go_at_call 17; refine HS.out.mono ?_; rintro e w1 ⟨rfl, hw⟩; subst w1)
    go_ret
    exact ⟨rfl, Below.refl _ _⟩
  rw [if_pos hn] at HS
  have HT : Hid (∀ v, Below w.heap.size w v → Calls Try.prog 18 #[.slice ad n c] v fun r w' => r = .returned (.slice (some ⟨v.heap.size, 0, none⟩) n n) ∧ RowC w' v.heap.size n K T F O M ∧ Below v.heap.size v w') := fun v b => argToC (A.next b) c hn
  have HM : Hid (∀ g v, RowC v g n K T F O M → Calls Try.prog 12 #[.slice (some ⟨g, 0, none⟩) n n] v fun e w' => e = .returned (.agg #[.int .i64 (clC K T F O M n), .int .i64 0, .int .i64 (clA K T F O M n), .int .i64 0]) ∧ Below v.heap.size v w') := fun g v R => mcheck _ n n K T F O M v R.arg (by omega) (Nat.le_refl _)
  have HP : Hid (∀ g v, RowC v g n K T F O M → Calls Try.prog 11 #[.slice (some ⟨g, 0, none⟩) n n] v fun e w' => e = .returned (.agg #[.int .i64 (clC K T F O M n), .int .i64 0, .int .i64 (clA K T F O M n), .int .i64 0]) ∧ Below v.heap.size v w') := fun g v R => pcheck _ n n K T F O M v R.arg (by omega)
  generalize clC K T F O M n = CC at HM HP
  generalize clA K T F O M n = CA at HM HP
  have h1 : ¬ (1048576 : Int) - (n : Int) < 0 := by omega
  clear A
  go_enter Try.func5, Try.ntmps5
  go_wp2_with (first | (go_at_call 17; refine HS.out.mono ?_; rintro e w1 ⟨rfl, hw⟩; subst w1) | (go_at_call 18; (with_reducible show Calls Try.prog 18 _ w _); refine (HT.out w (Below.refl _ _)).mono ?_; rintro e w2 ⟨rfl, X2, B2⟩) | (go_at_call 12; refine (HM.out _ w2 X2).mono ?_; rintro e w3 ⟨rfl, B3⟩; (have B03 := (B2.trans (B3.mono B2.size)).alloc (Nat.le_trans B2.size B3.size) (.cells #[.int .i64 CC, .int .i64 0, .int .i64 CA, .int .i64 0] 28)); (have C3 := C4.new w3 28 (.int .i64 CC) (.int .i64 0) (.int .i64 CA) (.int .i64 0)); clear X2 B2 B3 HS HM; skip))
  obtain ⟨W3, hW3⟩ : ∃ z, (w3.alloc (.cells #[.int .i64 CC, .int .i64 0, .int .i64 CA, .int .i64 0] 28)) = z := ⟨_, rfl⟩
  rw [hW3] at C3 B03 ⊢
  obtain ⟨b3, hb3⟩ : ∃ z, w3.heap.size = z := ⟨_, rfl⟩
  rw [hb3] at C3 ⊢
  clear hW3 hb3
  go_wp2_with (first | (go_at_call 18; (with_reducible show Calls Try.prog 18 _ W3 _); refine (HT.out W3 B03).mono ?_; rintro e w4 ⟨rfl, X4, B4⟩) | (go_at_call 11; refine (HP.out _ w4 X4).mono ?_; rintro e w5 ⟨rfl, B5⟩; (have C5a := ((C3.next B4).next B5).next (alloc_b (o := .cells #[.int .i64 CC, .int .i64 0, .int .i64 CA, .int .i64 0] 28))); (have D5 := C4.new w5 28 (.int .i64 CC) (.int .i64 0) (.int .i64 CA) (.int .i64 0)); (have B05 := (B03.trans ((B4.trans (B5.mono B4.size)).mono B03.size)).alloc (Nat.le_trans B03.size (Nat.le_trans B4.size B5.size)) (.cells #[.int .i64 CC, .int .i64 0, .int .i64 CA, .int .i64 0] 28)); (have X5 := (X4.next B5).next (alloc_b (o := .cells #[.int .i64 CC, .int .i64 0, .int .i64 CA, .int .i64 0] 28))); (have p0 := C5a.c0); (have p1 := C5a.c1); (have p2 := C5a.c2); (have p3 := C5a.c3); (have q0 := D5.c0); (have q1 := D5.c1); (have q2 := D5.c2); (have q3 := D5.c3); clear X4 B4 B5 C3 B03 HP C5a D5) | (go_at_call 19; refine (eqV CC 0 CA 0 _).mono ?_; rintro e w6 ⟨rfl, B6⟩; (have B06 := B05.trans (B6.mono B05.size)); (have X6 := X5.next B6); clear B05 X5 B6 p0 p1 p2 p3 q0 q1 q2 q3) | (go_at_call 18; (with_reducible show Calls Try.prog 18 _ w6 _); refine (HT.out w6 B06).mono ?_; rintro e w7 ⟨rfl, X7, B7⟩) | (go_at_call 20; refine (eqRowC (X6.next B7) X7 n n hn).mono ?_; rintro e w8 ⟨rfl, B8⟩))
  go_ret
  exact ⟨rfl, (B06.trans (B7.mono B06.size)).trans (B8.mono (Nat.le_trans B06.size B7.size))⟩

set_option maxRecDepth 100000 in
theorem lifted (os : Os) (started : os.Started) (H : Type) (enc : TypeId × Value → H) :
    ReturnsInHanded {} Try.checked os 5 .any (Rows.fnExactCheckListSpec.pre6 enc Try.prog Try.f5 Rows.fnExactCheckListRow.domain false) (Rows.fnExactCheckListSpec.post enc Try.prog Try.f5 false true false false) := by
  refine returnsInHanded_of_change (C := Try.checked) own started (by kernel_rfl) Try.func5
    (ChangeSpec.witness6 (enc := enc) (C := Try.checked) false ⟨#[], #[.slice none 0 0], []⟩ 8 (by kernel_rfl) (by kernel_rfl) (by kernel_rfl) (by kernel_rfl)) ?_
  intro W base args ds gs before hval0 hW hcnd _
  have hval : ∀ (j : Nat) t v, Try.f5.params[j]? = some t → args[j]? = some v → Value.okWide Try.prog W .any base t v := hval0
  have hW' := hW
  obtain ⟨p, q, hA0, hV, rfl, hfz, hnd⟩ := hW
  have hA : DataW.TrodAll enc Try.prog W 0 (fun _ => true) true Try.f5.params.toList args.toList ds p := hA0
  rw [Try.params5] at hA hval
  obtain ⟨v0, vs0, d0, ds0, p0, q0, hargs, rfl, rfl, h0, r0⟩ := trodAll_cons hA
  obtain ⟨rfl, rfl, rfl⟩ := trodAll_nil r0
  obtain rfl : args = #[v0] := by cases args; simp_all
  obtain ⟨rfl, rfl⟩ := trodVars_none hV
  simp only [List.append_nil] at hW'
  have k0 := h0
  have lt0 : ∀ x ∈ p0, x.block < W.heap.size := fun x hx => by have := hW'.lt x (by simp [hx]); simpa using this
  obtain ⟨ad, n, c, K, T, F, O, M, rfl, mn, A, -, -, -, -, -⟩ := viewC Try.underlying38 Try.underlying33 (by kernel_rfl) rfl rfl rfl rfl rfl (by kernel_rfl) (by kernel_rfl) (by kernel_rfl) (by kernel_rfl) (by kernel_rfl) Try.underlying3 Try.underlying3 Try.underlying3 Try.underlying3 Try.underlying3 (hval 0 38 v0 rfl rfl) h0 lt0
  have arg0 : ∀ (W' : World), Below W.heap.size W W' → DataW.Trod enc Try.prog W' 0 (fun b => decide (b < W.heap.size)) true 38 (.slice ad n c) d0 p0 := fun W' hn => Below.trod laidOut (by kernel_rfl) (of_decide_eq_true (by kernel_rfl)) k0 hn lt0
  clear hA0 hval0
  refine (walk W ad n c K T F O M mn A).mono fun e W' ⟨he, hg⟩ => ?_
  subst he
  refine ⟨_, rfl, _, _, _, [], p0 ++ [], [], hW', (trodAll_cons_mk (shut_bool Try.underlying4 _) trodAll_mk0), (trodAll_cons_mk (arg0 _ hg) trodAll_mk0), rfl, hg.frame _, fun h => by cases h⟩
theorem over : Rows.fnExactCheckListRow.holds Try.pinned (OpenSpec.ofChange Rows.fnExactCheckListSpec) :=
  OpenClaim.holds_of_wide 5 Try.f5 rfl rfl rfl rfl rfl rfl rfl ⟨rfl, rfl, rfl, rfl, rfl⟩ rfl rfl rfl rfl rfl (by kernel_rfl) Try.func5 (by kernel_rfl)
    (of_decide_eq_true (by kernel_rfl)) (by unfold Func.isWrapper; first | (rw [if_pos (by decide +kernel)]; kernel_rfl) | (rw [if_neg (by decide +kernel)]; exact ⟨rfl, rfl⟩))
    (fun os started H enc _ => lifted os started H enc)
end Go.Proofs.Ytnbpncjbfnhkjaa.fnExactCheckList
namespace Go.Proofs.Ytnbpncjbfnhkjaa
theorem checkList : Rows.FnExactCheckListSaid := fnExactCheckList.over
#print axioms checkList
end Go.Proofs.Ytnbpncjbfnhkjaa
