/- PackColor answers as its model at every number for a format and every four whole numbers, and its answer owns its memory. No conditions. -/
import Derived.Test.YtfhnfgjffekmiaaRows
import Derived.Test.YtfhnfgjffekmiaaAy
namespace Go.Proofs.Ytfhnfgjffekmiaa.fnExactPackColor
open Go.ChangeShapes Go.WideShapes Go.ChangeAt Go.RowKit
set_option linter.unusedVariables false
theorem own : ownKnob Try.prog.godebug = none := by kernel_rfl
theorem laidOut : laidOutB Try.prog = true := by kernel_rfl

set_option maxRecDepth 100000 in
set_option maxHeartbeats 8000000 in
theorem walk (w : World) (a0 : Int) (w0 : (Lit.int .i64 a0).wf = true) (kr kg kb ka : Int) :
    Calls Try.prog 4 #[.int .i64 a0, .agg #[.int .i64 kr, .int .i64 kg, .int .i64 kb, .int .i64 ka]] w fun e w' => e = .returned (.bool true) ∧ Below w.heap.size w w' := by
  have HT : Hid (∀ w', Calls Try.prog 12 #[.agg #[.int .i64 kr, .int .i64 kg, .int .i64 kb, .int .i64 ka]] w' fun e w'' => e = .returned (.agg #[.int .i64 kr, .int .i64 kg, .int .i64 kb, .int .i64 ka]) ∧ Below w'.heap.size w' w'') := fun w' => toK kr kg kb ka w'
  have HM : Hid (∀ w', Calls Try.prog 14 #[.int .i64 a0, .agg #[.int .i64 kr, .int .i64 kg, .int .i64 kb, .int .i64 ka]] w' (Pkd w' (pkC a0 kr kg kb ka))) := fun w' => pack14 a0 kr kg kb ka w'
  have HP : Hid (∀ w', Calls Try.prog 15 #[.int .i64 a0, .agg #[.int .i64 kr, .int .i64 kg, .int .i64 kb, .int .i64 ka]] w' (Pkd w' (pkC a0 kr kg kb ka))) := fun w' => pack15 a0 kr kg kb ka w'
  have HC : Hid (∀ w', Below (w.alloc (.cells #[.int .i64 kr, .int .i64 kg, .int .i64 kb, .int .i64 ka] 23)).heap.size (w.alloc (.cells #[.int .i64 kr, .int .i64 kg, .int .i64 kb, .int .i64 ka] 23)) w' → C4 w' w.heap.size (.int .i64 kr) (.int .i64 kg) (.int .i64 kb) (.int .i64 ka) ∧ Below w.heap.size w w') := fun w' b => ⟨(C4.new w 23 _ _ _ _).next b, alloc_b.trans (b.mono (by simp))⟩
  have hL : (pkC a0 kr kg kb ka).length ≤ 4 := pkC_len _ _ _ _ _
  have hL' : (pkC a0 kr kg kb ka).length ≤ 1048576 := by omega
  generalize pkC a0 kr kg kb ka = L at HM HP hL hL'
  go_enter Try.func4, Try.ntmps4
  go_wp2_with (first | (go_at_call 12; (with_reducible show Calls Try.prog 12 _ (w.alloc (.cells #[.int .i64 kr, .int .i64 kg, .int .i64 kb, .int .i64 ka] 23)) _); refine (HT.out _).mono ?_; rintro e w2 ⟨rfl, B2⟩) | (go_at_call 14; refine (HM.out w2).mono ?_; rintro e w3 ⟨u, rfl, U3, B3⟩; (obtain ⟨C3, D3⟩ := HC.out w3 (B2.trans (B3.mono B2.size))); (have q0 := C3.c0); (have q1 := C3.c1); (have q2 := C3.c2); (have q3 := C3.c3)) | (go_at_call 12; (with_reducible show Calls Try.prog 12 _ w3 _); refine (HT.out _).mono ?_; rintro e w4 ⟨rfl, B4⟩) | (go_at_call 15; refine (HP.out w4).mono ?_; rintro e w5 ⟨v, rfl, V5, B5⟩))
  have U5 := (U3.yrow.next B4).next B5
  have C5 := (C3.next B4).next B5
  have D5 : Below w.heap.size w w5 := D3.trans ((B4.trans (B5.mono B4.size)).mono D3.size)
  have hc3 : Hid (w.heap.size < w3.heap.size) := C3.hi
  have hu3 : Hid (∀ g, u.ownBlock = some g → g < w3.heap.size) := U3.hi
  have hv5 : Hid (∀ g, v.ownBlock = some g → w3.heap.size ≤ g) := fun g hg => Nat.le_trans B4.size (V5.lo g hg)
  have Vy := V5.yrow
  have hs3 : Hid (w.heap.size ≤ w3.heap.size ∧ w3.heap.size ≤ w5.heap.size) := ⟨D3.size, Nat.le_trans B4.size B5.size⟩
  clear C3 D3 B2 B3 B4 B5 U3 V5 q0 q1 q2 q3
  have h16 := eqYV Vy U5 hL'
  go_wp2_with (go_at_call 16; refine h16.mono ?_; rintro e w6 ⟨rfl, B6⟩)
  have U6 := U5.next B6
  have V6 := Vy.next B6
  have C6 := C5.next B6
  have D6 : Below w.heap.size w w6 := D5.trans (B6.mono D5.size)
  have hs6 : Hid (w5.heap.size ≤ w6.heap.size) := B6.size
  clear h16 U5 Vy C5 D5 B6
  have h17 := markYV V6 hL' w3.heap.size (by have := hs3.out; have := hs6.out; omega) hv5.out
  go_wp2_with (go_at_call 17; refine h17.mono ?_; rintro e w7 ⟨rfl, V7, B7⟩)
  have U7 := U6.keep B7 hu3.out
  have C7 : C4 w7 w.heap.size (.int .i64 kr) (.int .i64 kg) (.int .i64 kb) (.int .i64 ka) := C6.block (B7.block _ hc3.out) B7.size
  have D7 : Below w.heap.size w w7 := D6.trans (B7.mono hs3.out.1)
  clear h17 U6 V6 C6 D6
  have h18 := heldYV V7 hL'
  go_wp2_with (first | (go_at_call 18; refine h18.mono ?_; rintro e w8 ⟨rfl, hw⟩; subst w8; (have s0 := C7.c0); (have s1 := C7.c1); (have s2 := C7.c2); (have s3 := C7.c3)) | (go_at_call 12; refine (HT.out _).mono ?_; rintro e w9 ⟨rfl, B9⟩) | (go_at_call 15; refine (HP.out w9).mono ?_; rintro e w10 ⟨v2, rfl, X10, B10⟩))
  have U10 := (U7.next B9).next B10
  have V10 := (V7.next B9).next B10
  have D10 : Below w.heap.size w w10 := D7.trans ((B9.trans (B10.mono B9.size)).mono D7.size)
  have h16 := eqYV X10.yrow U10 hL'
  clear h18 U7 V7 C7 D7 B9 B10 s0 s1 s2 s3
  go_wp2_with (go_at_call 16; refine h16.mono ?_; rintro e w11 ⟨rfl, B11⟩)
  have V11 := V10.next B11
  have h18 := heldYV V11 hL'
  go_wp2_with (go_at_call 18; refine h18.mono ?_; rintro e w12 ⟨rfl, hw⟩; subst w12)
  go_ret
  exact ⟨rfl, D10.trans (B11.mono D10.size)⟩

set_option maxRecDepth 100000 in
theorem lifted (os : Os) (started : os.Started) (H : Type) (enc : TypeId × Value → H) :
    ReturnsInHanded {} Try.checked os 4 .any (Rows.fnExactPackColorSpec.pre6 enc Try.prog Try.f4 Rows.fnExactPackColorRow.domain false) (Rows.fnExactPackColorSpec.post enc Try.prog Try.f4 false true false false) := by
  refine returnsInHanded_of_change (C := Try.checked) own started (by kernel_rfl) Try.func4
    (ChangeSpec.witness6 (enc := enc) (C := Try.checked) false ⟨#[], #[.int .i64 0, .agg #[.int .i64 0, .int .i64 0, .int .i64 0, .int .i64 0]], []⟩ 8 (by kernel_rfl) (by kernel_rfl) (by kernel_rfl) (by kernel_rfl)) ?_
  intro W base args ds gs before hval0 hW hcnd _
  have hval : ∀ (j : Nat) t v, Try.f4.params[j]? = some t → args[j]? = some v → Value.okWide Try.prog W .any base t v := hval0
  have hW' := hW
  obtain ⟨p, q, hA0, hV, rfl, hfz, hnd⟩ := hW
  have hA : DataW.TrodAll enc Try.prog W 0 (fun _ => true) true Try.f4.params.toList args.toList ds p := hA0
  rw [Try.params4] at hA hval
  obtain ⟨v0, vs0, d0, ds0, p0, q0, hargs, rfl, rfl, h0, r0⟩ := trodAll_cons hA
  obtain ⟨v1, vs1, d1, ds1, p1, q1, rfl, rfl, rfl, h1, r1⟩ := trodAll_cons r0
  obtain ⟨rfl, rfl, rfl⟩ := trodAll_nil r1
  obtain rfl : args = #[v0, v1] := by cases args; simp_all
  obtain ⟨rfl, rfl⟩ := trodVars_none hV
  simp only [List.append_nil] at hW'
  obtain ⟨a0, rfl, rfl, rfl, w0⟩ := open_int Try.underlying3 (hval 0 3 v0 rfl rfl) h0
  have k1 := h1
  have lt1 : ∀ x ∈ p1, x.block < W.heap.size := fun x hx => by have := hW'.lt x (by simp [hx]); simpa using this
  obtain ⟨kr, kg, kb, ka, rfl⟩ := viewK Try.underlying23 (by kernel_rfl) rfl rfl rfl rfl (by kernel_rfl) (by kernel_rfl) (by kernel_rfl) (by kernel_rfl) Try.underlying3 Try.underlying3 Try.underlying3 Try.underlying3 (hval 1 23 v1 rfl rfl) h1
  have arg1 : ∀ (W' : World), Below W.heap.size W W' → DataW.Trod enc Try.prog W' 0 (fun b => decide (b < W.heap.size)) true 23 (.agg #[.int .i64 kr, .int .i64 kg, .int .i64 kb, .int .i64 ka]) d1 p1 := fun W' hn => Below.trod laidOut (by kernel_rfl) (of_decide_eq_true (by kernel_rfl)) k1 hn lt1
  clear hA0 hval0
  refine (walk W a0 w0 kr kg kb ka).mono fun e W' ⟨he, hg⟩ => ?_
  subst he
  refine ⟨_, rfl, _, _, _, [], [] ++ (p1 ++ []), [], hW', (trodAll_cons_mk (shut_bool Try.underlying4 _) trodAll_mk0), (trodAll_cons_mk (shut_int Try.underlying3 w0) (trodAll_cons_mk (arg1 _ hg) trodAll_mk0)), rfl, hg.frame _, fun h => by cases h⟩
theorem over : Rows.fnExactPackColorRow.holds Try.pinned (OpenSpec.ofChange Rows.fnExactPackColorSpec) :=
  OpenClaim.holds_of_wide 4 Try.f4 rfl rfl rfl rfl rfl rfl rfl ⟨rfl, rfl, rfl, rfl, rfl⟩ rfl rfl rfl rfl rfl (by kernel_rfl) Try.func4 (by kernel_rfl)
    (of_decide_eq_true (by kernel_rfl)) (by unfold Func.isWrapper; first | (rw [if_pos (by decide +kernel)]; kernel_rfl) | (rw [if_neg (by decide +kernel)]; exact ⟨rfl, rfl⟩))
    (fun os started H enc _ => lifted os started H enc)
end Go.Proofs.Ytfhnfgjffekmiaa.fnExactPackColor
namespace Go.Proofs.Ytfhnfgjffekmiaa
theorem packColor : Rows.FnExactPackColorSaid := fnExactPackColor.over
#print axioms packColor
end Go.Proofs.Ytfhnfgjffekmiaa
