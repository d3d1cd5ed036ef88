/- Proved: the law FnExactCalls returns true (Calls answers as its model, and its answer is memory of its own, behind another call too) and the table of calls reads afterwards as before; condition: the table of calls reads as the program's text lays it (the card ties it; the pruned copy's other packages are not spoken of). -/
import Derived.Test.YtojjifppfinkhaaDoorCallsT
import Derived.Test.YtojjifppfinkhaaDoorStr
import Derived.Test.YtojjifppfinkhaaDoorCards
import Derived.Test.YtojjifppfinkhaaDoorTie
import Derived.WalkSmall
namespace Go.Proofs.YtojjifppfinkhaaDoor.fnExactCalls
open Go.ChangeShapes Go.WideShapes Go.ChangeAt Go.RowKit
set_option linter.unusedVariables false
theorem mark1 {a : Nat} {f : Nat → Value} {w : World} (O : Own w a 11 f) (ca : Nat) :
    Calls Tryd.prog 8 #[.slice (some ⟨a, 0, none⟩) 11 ca, .int .i64 1] w fun r w' => r = .returned (.int .i64 12) ∧ Own w' a 11 (fun i => .string (mtext (1 + i))) ∧ Only a w w' :=
  (mark9 O ca 1 (by omega) (by omega) (by omega)).mono fun e w' ⟨h1, h2, h3⟩ => ⟨h1, h2, h3⟩
theorem held1 {a : Nat} {w : World} (ca : Nat) (O : Own w a 11 (fun i => .string (mtext (1 + i)))) :
    Calls Tryd.prog 9 #[.slice (some ⟨a, 0, none⟩) 11 ca, .int .i64 1] w fun r w' => r = .returned (.int .i64 12) ∧ Below w.heap.size w w' :=
  (held10 ca 1 O (by omega) (by omega) (by omega)).mono fun e w' ⟨h1, h2⟩ => ⟨h1, h2⟩
theorem same1 {a b : Nat} {f : Nat → ByteArray} {w : World} (A : Own w a 11 (fun i => .string (f i))) (B : Own w b 11 (fun i => .string (f i))) (ca cb : Nat) :
    Calls Tryd.prog 7 #[.slice (some ⟨a, 0, none⟩) 11 ca, .slice (some ⟨b, 0, none⟩) 11 cb] w fun r w' => r = .returned (.bool true) ∧ Below w.heap.size w w' := sameS A B ca cb (by omega)
set_option maxHeartbeats 2000000 in
theorem walk (w : World) (F : Forms w) : Calls Tryd.prog 3 #[] w fun e w' => e = .returned (.bool true) ∧ Below w.heap.size w w' := by
  have HF : Hid (Forms w) := F
  clear F
  go_enter Tryd.func3, Tryd.ntmps3
  go_wp2_with (first | (go_at_call 5; (with_reducible show Calls Tryd.prog 5 _ w _); refine (calls5 w).mono ?_; rintro e w1 ⟨rfl, S1, B1⟩) | (go_at_call 6; (with_reducible show Calls Tryd.prog 6 _ w1 _); refine (calls6 w1 (HF.out.below B1)).mono ?_; rintro e w2 ⟨⟨g2, cap2, rfl, hg2, G2⟩, C2⟩; have B2 := B1.trans (C2.mono B1.size); have S2 := S1.next C2) | (go_at_call 7; (with_reducible show Calls Tryd.prog 7 _ w2 _); refine (same1 G2 S2 _ _).mono ?_; rintro e w3 ⟨rfl, C3⟩; have B3 := B2.trans (C3.mono B2.size); have S3 := S2.next C3; have G3 := G2.next C3) | (go_at_call 8; (with_reducible show Calls Tryd.prog 8 _ w3 _); refine (mark1 G3 _).mono ?_; rintro e w4 ⟨rfl, G4, C4⟩; (have n1 : w.heap.size ≠ g2 := by have := S1.hi; omega); have S4 := S3.but C4 n1; have B4 := B3.trans (C4.below (B := w.heap.size) (by have := B1.size; omega) B3.size)) | (go_at_call 9; (with_reducible show Calls Tryd.prog 9 _ w4 _); refine (held1 _ G4).mono ?_; rintro e w5 ⟨rfl, C5⟩; have B5 := B4.trans (C5.mono B4.size); have S5 := S4.next C5; have G5 := G4.next C5) | (go_at_call 6; (with_reducible show Calls Tryd.prog 6 _ w5 _); refine (calls6 w5 (HF.out.below B5)).mono ?_; rintro e w6 ⟨⟨g6, cap6, rfl, hg6, H6⟩, C6⟩; have B6 := B5.trans (C6.mono B5.size); have S6 := S5.next C6; have G6 := G5.next C6) | (go_at_call 7; (with_reducible show Calls Tryd.prog 7 _ w6 _); refine (same1 H6 S6 _ _).mono ?_; rintro e w7 ⟨rfl, C7⟩; have B7 := B6.trans (C7.mono B6.size); have G7 := G6.next C7) | (go_at_call 9; (with_reducible show Calls Tryd.prog 9 _ w7 _); refine (held1 _ G7).mono ?_; rintro e w8 ⟨rfl, C8⟩; have B8 := B7.trans (C8.mono B7.size)))
  go_ret
  exact ⟨rfl, B8⟩
theorem laid_met (os : Os) : laidMet Tryd.prog Rows.fnExactCallsRow.laid ((laidWorld os).forCall (fun _ _ => 0) ⟨#[], #[], []⟩).memory :=
  laidMet_of_run' 8 (by kernel_rfl) (by kernel_rfl)
set_option maxRecDepth 100000 in
theorem lifted (os : Os) (started : os.Started) (H : Type) (enc : TypeId × Value → H) :
    ReturnsInHanded {} Tryd.checked os 3 .any (fun w args => (Rows.fnExactCallsSpec.pre enc Tryd.prog Tryd.f3 [] false w args ∧ laidMetH Tryd.prog Rows.fnExactCallsRow.laid w) ∧ sizedMet enc Tryd.prog Tryd.f3 (OpenSpec.ofChange Rows.fnExactCallsSpec) false w args)
      (Rows.fnExactCallsSpec.post enc Tryd.prog Tryd.f3 false true false false) := by
  refine returnsInHanded_of_change_and (C := Tryd.checked) (X := fun w _ => laidMetH Tryd.prog Rows.fnExactCallsRow.laid w) (fun _ _ _ hh h => h.of_heap hh) own started (by kernel_rfl) Tryd.func3
    (ChangeSpec.witness_at (enc := enc) (C := Tryd.checked) (os := os) (X := fun w _ => laidMetH Tryd.prog Rows.fnExactCallsRow.laid w) false (laidWorld os) #[] 8 rfl (by kernel_rfl) (by kernel_rfl) (by kernel_rfl) (by kernel_rfl) (by kernel_rfl) (laid_met os)) ?_
  intro W base args ds gs before hval0 hW _ _ hL _
  have hW' := hW
  obtain ⟨p, q, hA0, hV0, rfl, hfz, hnd⟩ := hW
  have hA : DataW.TrodAll enc Tryd.prog W 0 (fun _ => true) true Tryd.f3.params.toList args.toList ds p := hA0
  have hV : DataW.TrodVars enc Tryd.prog W (fun _ => true) ["loop.example/g00053/impl.callForms"] gs q := hV0
  rw [Tryd.params3] at hA
  obtain ⟨hargs, rfl, rfl⟩ := trodAll_nil hA
  obtain rfl : args = #[] := by cases args; simp_all
  obtain ⟨g, t, cs, fuel, d, p', rfl, hg, ht, hvar, hd, rfl⟩ := trodVars_one hV
  obtain rfl := Option.some.inj (gTab.symm.trans hg)
  obtain rfl := Option.some.inj (gTabType.symm.trans ht)
  obtain rfl : cs = cellsT := Option.some.inj (hvar.symm.trans (cells_of_laid hL))
  obtain ⟨rfl, rfl⟩ := DataW.Trod.unique (v := .agg cellsT) ⟨fuel, hd⟩ ⟨4, reads_table enc W _⟩
  clear hA0 hV0 hval0
  refine (walk W (forms_of_laid hL)).mono fun e W' ⟨he, bel⟩ => ?_
  subst he
  have hv' : W'.var? Tryd.prog "loop.example/g00053/impl.callForms" = some cellsT := var?_below bel gTab (forms_of_laid hL).pos hvar
  exact ⟨_, rfl, _, _, _, [], [], MemPlace.row ⟨0, 0, none⟩ cellsT.size ++ [] ++ [], hW', trodAll_cons_mk (shut_bool Tryd.underlying4 _) trodAll_mk0, trodAll_mk0, ⟨0, 31, cellsT, 4, [], [], hg, ht, hv', reads_table enc W' _, rfl, rfl⟩, bel.frame _, fun h => by cases h⟩

theorem said : Rows.FnExactCallsSaid :=
  OpenClaim.holds_of_wide 3 Tryd.f3 rfl rfl rfl rfl rfl rfl rfl ⟨rfl, rfl, rfl, rfl, rfl⟩ rfl rfl rfl rfl rfl (by kernel_rfl) Tryd.func3 (by kernel_rfl)
    (of_decide_eq_true (by kernel_rfl)) (by unfold Func.isWrapper; first | (rw [if_pos (by decide +kernel)]; kernel_rfl) | (rw [if_neg (by decide +kernel)]; exact ⟨rfl, rfl⟩))
    (fun os started H enc _ => lifted os started H enc)

theorem plain (f : FuncId) (fn : Func) (hf : Tryd.pinned.checked.prog.funcNamed "loop.example/g00053/laws.FnExactCalls" = some f) (hfn : Tryd.pinned.checked.prog.funcs[f]? = some fn) :
    false = Tryd.pinned.checked.prog.looks [] ∧ ∀ (j : Nat) t, fn.params[j]? = some t → Tryd.pinned.checked.prog.wantsStandIn t = false := by
  obtain rfl : f = 3 := Option.some.inj ((show Tryd.prog.funcNamed "loop.example/g00053/laws.FnExactCalls" = some 3 by kernel_rfl).symm.trans hf) |>.symm
  obtain rfl : fn = Tryd.f3 := (Option.some.inj (Tryd.func3.symm.trans hfn)).symm
  refine ⟨by kernel_rfl, fun j t ht => ?_⟩
  rw [Tryd.params3] at ht
  simp at ht

theorem card : Rows.FnExactCallsCardSaid :=
  Claim7.holds_tied_plain_at .later [] _ _ _ _ said (fun _ h => by cases h) (by kernel_rfl) (fun _ h => by cases h) fnExactCalls_row_tie rfl ⟨rfl, rfl⟩ (by kernel_rfl) rfl plain (by kernel_rfl)

end Go.Proofs.YtojjifppfinkhaaDoor.fnExactCalls
namespace Go.Proofs.YtojjifppfinkhaaDoor
theorem calls_holds : Rows.FnExactCallsCardSaid := fnExactCalls.card
#print axioms calls_holds
end Go.Proofs.YtojjifppfinkhaaDoor
