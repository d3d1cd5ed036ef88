/- UnpackColor answers as its model at every number for a format and every row of bytes (up to 2^20, as the law asks), and writes into none of it. No conditions. -/
import Derived.Test.YtfhnfgjffekmiaaRows
import Derived.Test.YtfhnfgjffekmiaaAf
namespace Go.Proofs.Ytfhnfgjffekmiaa.fnExactUnpackColor
open Go.ChangeShapes Go.WideShapes Go.ChangeAt Go.RowKit
set_option linter.unusedVariables false
theorem own : ownKnob Try.prog.godebug = none := by kernel_rfl
theorem laidOut : laidOutB Try.prog = true := by kernel_rfl

set_option maxRecDepth 100000 in
set_option maxHeartbeats 8000000 in
theorem walk (w : World) (a0 : Int) (w0 : (Lit.int .i64 a0).wf = true) (s1 : Option Addr) (n1 c1 : Nat) (f1 : Nat → Int) (m1 : n1 ≤ 9223372036854775807) (A1 : Arg w s1 n1 (fun i => .int .u8 (f1 i))) (z1 : ∀ i, (Lit.int .u8 (f1 i)).wf = true) :
    Calls Try.prog 5 #[.int .i64 a0, .slice s1 n1 c1] w fun e w' => e = .returned (.bool true) ∧ Below w.heap.size w w' := by
  by_cases hn : n1 ≤ 1048576
  case neg =>
    have h : (1048576 : Int) < (n1 : Int) := by omega
    go_enter Try.func5, Try.ntmps5
    go_wp2
    go_ret
    exact ⟨rfl, Below.refl _ _⟩
  have hlen : ¬ (1048576 : Int) < (n1 : Int) := by omega
  have HT : Hid (∀ w', Below w.heap.size w w' → Calls Try.prog 20 #[.slice s1 n1 c1] w' fun e w'' => e = .returned (.slice (some ⟨w'.heap.size, 0, none⟩) n1 n1) ∧ Own w'' w'.heap.size n1 (fun i => .int .u8 (f1 i)) ∧ Below w'.heap.size w' w'') := fun w' b => argY (A1.next b) c1 hn
  have hz : ∀ i, 0 ≤ f1 i ∧ f1 i ≤ 255 := fun i => wf_u8 (z1 i)
  have HB : Hid (∀ (w' : World) (g : Nat), Own w' g n1 (fun i => .int .u8 (f1 i)) → Bs8 w' (.slice (some ⟨g, 0, none⟩) n1 n1) n1 f1) := fun w' g O => ⟨g, 0, n1, rfl, fun i hi => by rw [Nat.zero_add]; exact O.cell i hi, fun i _ => hz i⟩
  obtain ⟨A, B, C, D, hK⟩ : ∃ A B C D : Int, (if upB a0 n1 then .agg #[.int .i64 (u0 a0 f1), .int .i64 (u1 a0 f1), .int .i64 (u2 a0 f1), .int .i64 (u3 a0 f1)] else .agg #[.int .i64 0, .int .i64 0, .int .i64 0, .int .i64 0] : Value) = .agg #[.int .i64 A, .int .i64 B, .int .i64 C, .int .i64 D] := by
    cases upB a0 n1
    · exact ⟨0, 0, 0, 0, rfl⟩
    · exact ⟨_, _, _, _, rfl⟩
  have HM : Hid (∀ (w' : World) (g : Nat), Own w' g n1 (fun i => .int .u8 (f1 i)) → Calls Try.prog 19 #[.int .i64 a0, (.slice (some ⟨g, 0, none⟩) n1 n1)] w' fun e w'' => e = .returned (.tuple #[.agg #[.int .i64 A, .int .i64 B, .int .i64 C, .int .i64 D], .bool (upB a0 n1)]) ∧ Below w'.heap.size w' w'') := fun w' g O => by
    rw [← hK]; exact unp19 a0 _ n1 n1 f1 w' hn (fun _ => HB.out w' g O)
  have HP : Hid (∀ (w' : World) (g : Nat), Own w' g n1 (fun i => .int .u8 (f1 i)) → Calls Try.prog 21 #[.int .i64 a0, (.slice (some ⟨g, 0, none⟩) n1 n1)] w' fun e w'' => e = .returned (.tuple #[.agg #[.int .i64 A, .int .i64 B, .int .i64 C, .int .i64 D], .bool (upB a0 n1)]) ∧ Below w'.heap.size w' w'') := fun w' g O => by
    rw [← hK]; exact unp21 a0 _ n1 n1 f1 w' hn (fun _ => HB.out w' g O)
  generalize upB a0 n1 = UB at HM HP
  clear hK hz HB A1 z1 m1
  cases UB
  all_goals
    go_enter Try.func5, Try.ntmps5
    go_wp2_with (first | (go_at_call 20; (with_reducible show Calls Try.prog 20 _ w _); refine (HT.out w (Below.refl _ _)).mono ?_; rintro e w2 ⟨rfl, O2, B2⟩) | (go_at_call 19; refine (HM.out w2 _ O2).mono ?_; rintro e w3 ⟨rfl, B3⟩; (have D3 : Below w.heap.size w (w3.alloc (.cells #[.int .i64 A, .int .i64 B, .int .i64 C, .int .i64 D] 25)) := (B2.trans (B3.mono B2.size)).alloc (Nat.le_trans B2.size B3.size) _)) | (go_at_call 20; (with_reducible show Calls Try.prog 20 _ (w3.alloc (.cells #[.int .i64 A, .int .i64 B, .int .i64 C, .int .i64 D] 25)) _); refine (HT.out _ D3).mono ?_; rintro e w4 ⟨rfl, O4, B4⟩))
    have C4' := (C4.new w3 25 (.int .i64 A) (.int .i64 B) (.int .i64 C) (.int .i64 D)).next B4
    have D4 : Below w.heap.size w w4 := D3.trans (B4.mono D3.size)
    have O4' : Hid (∀ w', Below w4.heap.size w4 w' → Own w' (w3.alloc (.cells #[.int .i64 A, .int .i64 B, .int .i64 C, .int .i64 D] 25)).heap.size n1 (fun i => .int .u8 (f1 i))) := fun w' b => O4.next b
    have h21 := HP.out w4 _ O4
    obtain ⟨z4, hz4⟩ : ∃ z, (w3.alloc (.cells #[.int .i64 A, .int .i64 B, .int .i64 C, .int .i64 D] 25)).heap.size = z := ⟨_, rfl⟩
    have hz4' : w3.heap.size + 1 = z4 := by rw [← hz4]; simp
    rw [hz4] at O4' h21
    clear O2 B2 B3 D3 O4 B4 hz4
    try simp only [World.size_alloc]
    try rw [hz4']
    have HZ := Hid.mk hz4'
    clear hz4'
    go_wp2_with (go_at_call 21; refine h21.mono ?_; rintro e w5 ⟨rfl, B5⟩; (have C5 := C4'.next B5); (have q0 := C5.c0); (have q1 := C5.c1); (have q2 := C5.c2); (have q3 := C5.c3); (have qh := C5.hi))
    have D5 : Below w.heap.size w (w5.alloc (.cells #[.int .i64 A, .int .i64 B, .int .i64 C, .int .i64 D] 25)) := (D4.trans (B5.mono D4.size)).alloc (Nat.le_trans D4.size B5.size) _
    have O5 := (O4'.out w5 B5).next (alloc_b (o := (.cells #[.int .i64 A, .int .i64 B, .int .i64 C, .int .i64 D] 25)))
    clear B5 C5 C4' h21 q0 q1 q2 q3 qh
    go_wp2_with (go_at_call 22; refine (eqK A B C D _).mono ?_; rintro e w6 ⟨rfl, B6⟩; (have O6 := O5.next B6); (have D6 : Below w.heap.size w w6 := D5.trans (B6.mono D5.size)))
    clear B6 O5 D5
    go_wp2_with (first | (go_at_call 20; refine (HT.out w6 D6).mono ?_; rintro e w7 ⟨rfl, O7, B7⟩) | (go_at_call 16; refine (sameY (O6.next B7) O7 n1 n1 hn).mono ?_; rintro e w8 ⟨rfl, B8⟩))
    go_ret
    exact ⟨rfl, D6.trans ((B7.trans (B8.mono B7.size)).mono D6.size)⟩

set_option maxRecDepth 100000 in
theorem lifted (os : Os) (started : os.Started) (H : Type) (enc : TypeId × Value → H) :
    ReturnsInHanded {} Try.checked os 5 .any (Rows.fnExactUnpackColorSpec.pre6 enc Try.prog Try.f5 Rows.fnExactUnpackColorRow.domain false) (Rows.fnExactUnpackColorSpec.post enc Try.prog Try.f5 false true false false) := by
  refine returnsInHanded_of_change (C := Try.checked) own started (by kernel_rfl) Try.func5
    (ChangeSpec.witness6 (enc := enc) (C := Try.checked) false ⟨#[], #[.int .i64 0, .slice none 0 0], []⟩ 8 (by kernel_rfl) (by kernel_rfl) (by kernel_rfl) (by kernel_rfl)) ?_
  intro W base args ds gs before hval0 hW hcnd _
  have hval : ∀ (j : Nat) t v, Try.f5.params[j]? = some t → args[j]? = some v → Value.okWide Try.prog W .any base t v := hval0
  have hW' := hW
  obtain ⟨p, q, hA0, hV, rfl, hfz, hnd⟩ := hW
  have hA : DataW.TrodAll enc Try.prog W 0 (fun _ => true) true Try.f5.params.toList args.toList ds p := hA0
  rw [Try.params5] at hA hval
  obtain ⟨v0, vs0, d0, ds0, p0, q0, hargs, rfl, rfl, h0, r0⟩ := trodAll_cons hA
  obtain ⟨v1, vs1, d1, ds1, p1, q1, rfl, rfl, rfl, h1, r1⟩ := trodAll_cons r0
  obtain ⟨rfl, rfl, rfl⟩ := trodAll_nil r1
  obtain rfl : args = #[v0, v1] := by cases args; simp_all
  obtain ⟨rfl, rfl⟩ := trodVars_none hV
  simp only [List.append_nil] at hW'
  obtain ⟨a0, rfl, rfl, rfl, w0⟩ := open_int Try.underlying3 (hval 0 3 v0 rfl rfl) h0
  have k1 := h1
  have lt1 : ∀ x ∈ p1, x.block < W.heap.size := fun x hx => by have := hW'.lt x (by simp [hx]); simpa using this
  obtain ⟨s1, n1, c1, f1, rfl, m1, A1, z1⟩ := view_ints Try.underlying28 Try.underlying5 (by kernel_rfl) (hval 1 28 v1 rfl rfl) h1 lt1
  have arg1 : ∀ (W' : World), Below W.heap.size W W' → DataW.Trod enc Try.prog W' 0 (fun b => decide (b < W.heap.size)) true 28 (.slice s1 n1 c1) d1 p1 := fun W' hn => Below.trod laidOut (by kernel_rfl) (of_decide_eq_true (by kernel_rfl)) k1 hn lt1
  clear hA0 hval0
  refine (walk W a0 w0 s1 n1 c1 f1 m1 A1 z1).mono fun e W' ⟨he, hg⟩ => ?_
  subst he
  refine ⟨_, rfl, _, _, _, [], [] ++ (p1 ++ []), [], hW', (trodAll_cons_mk (shut_bool Try.underlying4 _) trodAll_mk0), (trodAll_cons_mk (shut_int Try.underlying3 w0) (trodAll_cons_mk (arg1 _ hg) trodAll_mk0)), rfl, hg.frame _, fun h => by cases h⟩
theorem over : Rows.fnExactUnpackColorRow.holds Try.pinned (OpenSpec.ofChange Rows.fnExactUnpackColorSpec) :=
  OpenClaim.holds_of_wide 5 Try.f5 rfl rfl rfl rfl rfl rfl rfl ⟨rfl, rfl, rfl, rfl, rfl⟩ rfl rfl rfl rfl rfl (by kernel_rfl) Try.func5 (by kernel_rfl)
    (of_decide_eq_true (by kernel_rfl)) (by unfold Func.isWrapper; first | (rw [if_pos (by decide +kernel)]; kernel_rfl) | (rw [if_neg (by decide +kernel)]; exact ⟨rfl, rfl⟩))
    (fun os started H enc _ => lifted os started H enc)
end Go.Proofs.Ytfhnfgjffekmiaa.fnExactUnpackColor
namespace Go.Proofs.Ytfhnfgjffekmiaa
theorem unpackColor : Rows.FnExactUnpackColorSaid := fnExactUnpackColor.over
#print axioms unpackColor
end Go.Proofs.Ytfhnfgjffekmiaa
