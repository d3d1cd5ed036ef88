/- Proved: the law FnExactSigns returns true (Signs answers as its model, and its answer is memory of its own, behind another call too); no conditions. -/
import Derived.Test.YtdbmelenlipjoaaRows
import Derived.Test.YtdbmelenlipjoaaLit
import Derived.Test.YtdbmelenlipjoaaStr
namespace Go.Proofs.Ytdbmelenlipjoaa.fnExactSigns
open Go.ChangeShapes Go.WideShapes Go.ChangeAt Go.RowKit
set_option linter.unusedVariables false
theorem own : ownKnob Try.prog.godebug = none := by kernel_rfl
theorem mark1 {a : Nat} {f : Nat → Value} {w : World} (O : Own w a 30 f) (ca : Nat) :
    Calls Try.prog 9 #[.slice (some ⟨a, 0, none⟩) 30 ca, .int .i64 1] w fun r w' => r = .returned (.int .i64 31) ∧ Own w' a 30 (fun i => .string (mtext (1 + i))) ∧ Only a w w' :=
  (mark9 O ca 1 (by omega) (by omega) (by omega)).mono fun e w' ⟨h1, h2, h3⟩ => ⟨h1, h2, h3⟩
theorem held1 {a : Nat} {w : World} (ca : Nat) (O : Own w a 30 (fun i => .string (mtext (1 + i)))) :
    Calls Try.prog 10 #[.slice (some ⟨a, 0, none⟩) 30 ca, .int .i64 1] w fun r w' => r = .returned (.int .i64 31) ∧ Below w.heap.size w w' :=
  (held10 ca 1 O (by omega) (by omega) (by omega)).mono fun e w' ⟨h1, h2⟩ => ⟨h1, h2⟩
theorem same1 {a b : Nat} {f : Nat → ByteArray} {w : World} (A : Own w a 30 (fun i => .string (f i))) (B : Own w b 30 (fun i => .string (f i))) :
    Calls Try.prog 8 #[.slice (some ⟨a, 0, none⟩) 30 30, .slice (some ⟨b, 0, none⟩) 30 30] w fun r w' => r = .returned (.bool true) ∧ Below w.heap.size w w' := sameS A B 30 30 (by omega)
set_option maxHeartbeats 2000000 in
theorem walk (w : World) : Calls Try.prog 4 #[] w fun e w' => e = .returned (.bool true) ∧ Below w.heap.size w w' := by
  go_enter Try.func4, Try.ntmps4
  go_wp2_with (first | (go_at_call 11; (with_reducible show Calls Try.prog 11 _ w _); refine (lit11 w).mono ?_; rintro e w1 ⟨rfl, S1, B1⟩) | (go_at_call 12; (with_reducible show Calls Try.prog 12 _ w1 _); refine (lit12 w1).mono ?_; rintro e w2 ⟨rfl, G2, C2⟩; have B2 := B1.trans (C2.mono B1.size); have S2 := S1.next C2) | (go_at_call 8; (with_reducible show Calls Try.prog 8 _ w2 _); refine (same1 G2 S2).mono ?_; rintro e w3 ⟨rfl, C3⟩; have B3 := B2.trans (C3.mono B2.size); have S3 := S2.next C3; have G3 := G2.next C3) | (go_at_call 9; (with_reducible show Calls Try.prog 9 _ w3 _); refine (mark1 G3 30).mono ?_; rintro e w4 ⟨rfl, G4, C4⟩; (have n1 : w.heap.size ≠ w1.heap.size := by have := S1.hi; omega); have S4 := S3.but C4 n1; have B4 := B3.trans (C4.below (B := w.heap.size) B1.size B3.size)) | (go_at_call 10; (with_reducible show Calls Try.prog 10 _ w4 _); refine (held1 30 G4).mono ?_; rintro e w5 ⟨rfl, C5⟩; have B5 := B4.trans (C5.mono B4.size); have S5 := S4.next C5; have G5 := G4.next C5) | (go_at_call 12; (with_reducible show Calls Try.prog 12 _ w5 _); refine (lit12 w5).mono ?_; rintro e w6 ⟨rfl, H6, C6⟩; have B6 := B5.trans (C6.mono B5.size); have S6 := S5.next C6; have G6 := G5.next C6) | (go_at_call 8; (with_reducible show Calls Try.prog 8 _ w6 _); refine (same1 H6 S6).mono ?_; rintro e w7 ⟨rfl, C7⟩; have B7 := B6.trans (C7.mono B6.size); have G7 := G6.next C7) | (go_at_call 10; (with_reducible show Calls Try.prog 10 _ w7 _); refine (held1 30 G7).mono ?_; rintro e w8 ⟨rfl, C8⟩; have B8 := B7.trans (C8.mono B7.size)))
  go_ret
  exact ⟨rfl, B8⟩
set_option maxRecDepth 100000 in
theorem lifted (os : Os) (started : os.Started) (H : Type) (enc : TypeId × Value → H) :
    ReturnsInHanded {} Try.checked os 4 .any (Rows.fnExactSignsSpec.pre6 enc Try.prog Try.f4 Rows.fnExactSignsRow.domain false) (Rows.fnExactSignsSpec.post enc Try.prog Try.f4 false true false false) := by
  refine returnsInHanded_of_change (C := Try.checked) own started (by kernel_rfl) Try.func4
    (ChangeSpec.witness6 (enc := enc) (C := Try.checked) false ⟨#[], #[], []⟩ 8 (by kernel_rfl) (by kernel_rfl) (by kernel_rfl) (by kernel_rfl)) ?_
  intro W base args ds gs before hval0 hW hcnd _
  have hW' := hW
  obtain ⟨p, q, hA0, hV, rfl, hfz, hnd⟩ := hW
  have hA : DataW.TrodAll enc Try.prog W 0 (fun _ => true) true Try.f4.params.toList args.toList ds p := hA0
  rw [Try.params4] at hA
  obtain ⟨hargs, rfl, rfl⟩ := trodAll_nil hA
  obtain rfl : args = #[] := by cases args; simp_all
  obtain ⟨rfl, rfl⟩ := trodVars_none hV
  simp only [List.append_nil] at hW'
  clear hA0 hval0
  refine (walk W).mono fun e W' ⟨he, hg⟩ => ?_
  subst he
  refine ⟨_, rfl, _, _, _, [], [], [], hW', (trodAll_cons_mk (shut_bool Try.underlying4 _) trodAll_mk0), trodAll_mk0, rfl, hg.frame _, fun h => by cases h⟩
theorem over : Rows.fnExactSignsRow.holds Try.pinned (OpenSpec.ofChange Rows.fnExactSignsSpec) :=
  OpenClaim.holds_of_wide 4 Try.f4 rfl rfl rfl rfl rfl rfl rfl ⟨rfl, rfl, rfl, rfl, rfl⟩ rfl rfl rfl rfl rfl (by kernel_rfl) Try.func4 (by kernel_rfl)
    (of_decide_eq_true (by kernel_rfl)) (by unfold Func.isWrapper; first | (rw [if_pos (by decide +kernel)]; kernel_rfl) | (rw [if_neg (by decide +kernel)]; exact ⟨rfl, rfl⟩))
    (fun os started H enc _ => lifted os started H enc)
end Go.Proofs.Ytdbmelenlipjoaa.fnExactSigns
namespace Go.Proofs.Ytdbmelenlipjoaa
theorem signs_holds : Rows.FnExactSignsSaid := fnExactSigns.over
#print axioms signs_holds
end Go.Proofs.Ytdbmelenlipjoaa
