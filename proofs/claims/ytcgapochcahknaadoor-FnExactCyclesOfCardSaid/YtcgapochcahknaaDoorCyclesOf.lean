/- Proved: for every list of instructions the law FnExactCyclesOf returns true (CyclesOf answers as its model, and it writes into no argument) and the argument reads afterwards as before; condition (a tied card): the table of calls starts as the text of the program lays it. -/
import Derived.Test.YtcgapochcahknaaDoorRows
import Derived.Test.YtcgapochcahknaaDoorCyo
import Derived.Test.YtcgapochcahknaaDoorMcy
import Derived.Test.YtcgapochcahknaaDoorRwm
import Derived.Test.YtcgapochcahknaaDoorTie
import Derived.Test.YtcgapochcahknaaDoorCards
import Derived.OpenShut
import Derived.ChangeMaps5
import Derived.SevenTiedAt
namespace Go.Proofs.YtcgapochcahknaaDoor.fnExactCyclesOf
open Go.ChangeShapes Go.WideShapes Go.ChangeAt Go.RowKit
set_option linter.unusedVariables false
theorem laidOut : laidOutB Tryd.prog = true := by kernel_rfl
theorem word_of {x : Int} (h : (Lit.int .u32 x).wf = true) : 0 ≤ x ∧ x < 4294967296 := by
  simp [Lit.wf] at h
  exact ⟨h.1, Int.lt_add_one_of_le h.2⟩
set_option maxRecDepth 100000 in
theorem sz (a : Option Addr) (n cap : Nat) (w : World) (hn : n ≤ 9223372036854775807) : Calls Tryd.prog 9 #[.slice a n cap, .int .i64 1048576] w fun r w' => (∃ z : Int, r = .returned (.int .i64 z) ∧ (z < 0 ∨ 0 ≤ z ∧ n ≤ 1048576)) ∧ w' = w := by
  by_cases big : 1048576 < n
  · have h : (1048576 : Int) - (n : Int) < 0 := by omega
    go_enter Tryd.func9, Tryd.ntmps9
    go_wp2
    go_ret
    exact ⟨⟨-1, rfl, Or.inl (by decide)⟩, rfl⟩
  · have h : 0 ≤ (1048576 : Int) - (n : Int) := by omega
    go_enter Tryd.func9, Tryd.ntmps9
    go_wp2
    go_ret
    exact ⟨⟨_, rfl, Or.inr ⟨h, by omega⟩⟩, rfl⟩
set_option maxHeartbeats 4000000 in
set_option maxRecDepth 100000 in
theorem walk (w : World) (G : Forms w) (s0 : Option Addr) (n0 c0 : Nat) (O D A B C X : Nat → Int) (m0 : n0 ≤ 9223372036854775807) (A0 : ArgI w s0 n0 O D A B C X) (x0 : ∀ i, 0 ≤ X i ∧ X i < 4294967296) :
    Calls Tryd.prog 6 #[.slice s0 n0 c0] w fun e w' => e = .returned (.bool true) ∧ Below w.heap.size w w' := by
  have HS : Hid (Calls Tryd.prog 9 #[.slice s0 n0 c0, .int .i64 1048576] w fun r w' => (∃ z : Int, r = .returned (.int .i64 z) ∧ (z < 0 ∨ 0 ≤ z ∧ n0 ≤ 1048576)) ∧ w' = w) := sz s0 n0 c0 w m0
  have HT : Hid (∀ w', Below w.heap.size w w' → n0 ≤ 1048576 → Calls Tryd.prog 11 #[.slice s0 n0 c0] w' fun r w'' => r = .returned (.slice (some ⟨w'.heap.size, 0, none⟩) n0 n0) ∧ RowI w'' w'.heap.size n0 O D A B C X ∧ Below w'.heap.size w' w'') := fun w' b hn => argToI (A0.next b) c0 hn
  have HF : Hid (∀ w', Below w.heap.size w w' → Forms w') := fun w' b => G.below b
  have HX : Rc.wd ⟨O, D, A, B, C, X, n0⟩ := fun i _ => x0 i
  clear A0 x0 G
  go_enter Tryd.func6, Tryd.ntmps6
  go_wp2_with (go_at_call 9; refine HS.out.mono ?_)
  rintro e w1 ⟨⟨z, rfl, hz⟩, hw⟩
  subst w1
  by_cases z0 : z < 0
  · go_wp2
    go_ret
    exact ⟨rfl, Below.refl _ _⟩
  obtain ⟨_, hn⟩ := hz.resolve_left z0
  clear hz
  have H13 := fun a w' (R : RowI w' a n0 O D A B C X) => mcyclesof a 0 n0 ⟨O, D, A, B, C, X, n0⟩ w' R.ir HX hn
  have H14 := fun a w' (g : Forms w') (R : RowI w' a n0 O D A B C X) => pcyclesof a 0 n0 ⟨O, D, A, B, C, X, n0⟩ w' g R.ir HX hn
  obtain ⟨GG, hGG⟩ : ∃ GG, (if Rc.row ⟨O, D, A, B, C, X, n0⟩ = true then ((Rw.cyc (Rc.rw ⟨O, D, A, B, C, X, n0⟩) id : Nat) : Int) else 0) = GG := ⟨_, rfl⟩
  obtain ⟨GB, hGB⟩ : ∃ GB, Rc.row ⟨O, D, A, B, C, X, n0⟩ = GB := ⟨_, rfl⟩
  have H13 : Hid (∀ a w', RowI w' a n0 O D A B C X → Calls Tryd.prog 24 #[.slice (some ⟨a, 0, none⟩) n0 n0] w' fun e w'' => e = .returned (.tuple #[.int .i64 GG, .bool GB]) ∧ Below w'.heap.size w' w'') := fun a w' R => by rw [← hGG, ← hGB]; exact H13 a w' R
  have H14 : Hid (∀ a w', Forms w' → RowI w' a n0 O D A B C X → Calls Tryd.prog 25 #[.slice (some ⟨a, 0, none⟩) n0 n0] w' fun e w'' => e = .returned (.tuple #[.int .i64 GG, .bool GB]) ∧ Below w'.heap.size w' w'') := fun a w' g R => by rw [← hGG, ← hGB]; exact H14 a w' g R
  clear hGG hGB
  go_wp2_with (first | (go_at_call 11; refine (HT.out w (Below.refl _ _) hn).mono ?_; rintro e w2 ⟨rfl, X2, B2⟩) | (go_at_call 24; refine (H13.out w.heap.size w2 X2).mono ?_; rintro e w3 ⟨rfl, B3⟩))
  have B13 : Below w.heap.size w w3 := B2.trans (B3.mono B2.size)
  go_wp2_with (first | (go_at_call 11; refine (HT.out w3 B13 hn).mono ?_; rintro e w4 ⟨rfl, X4, B4⟩) | (go_at_call 25; refine (H14.out w3.heap.size w4 (HF.out _ (B13.trans (B4.mono B13.size))) X4).mono ?_; rintro e w5 ⟨rfl, B5⟩))
  have B15 : Below w.heap.size w w5 := (B13.trans (B4.mono B13.size)).trans (B5.mono (by have := B13.size; have := B4.size; omega))
  have X5 := X4.next B5
  all_goals
    go_wp2_with (first | (go_at_call 11; refine (HT.out w5 B15 hn).mono ?_; rintro e w6 ⟨rfl, X6, B6⟩) | (go_at_call 13; refine (eqRowI (X5.next B6) X6 n0 n0 hn).mono ?_; rintro e w7 ⟨rfl, B7⟩))
    go_ret
    exact ⟨rfl, (B15.trans (B6.mono B15.size)).trans (B7.mono (by have := B15.size; have := B6.size; omega))⟩

theorem laid_met (os : Os) : laidMet Tryd.prog Rows.fnExactCyclesOfRow.laid ((laidWorld os).forCall (fun _ _ => 0) ⟨#[], #[.slice none 0 0], []⟩).memory :=
  laidMet_of_run' 8 (by kernel_rfl) (by kernel_rfl)
set_option maxRecDepth 100000 in
theorem lifted (os : Os) (started : os.Started) (H : Type) (enc : TypeId × Value → H) :
    ReturnsInHanded {} Tryd.checked os 6 .any (fun w args => (Rows.fnExactCyclesOfSpec.pre enc Tryd.prog Tryd.f6 [] false w args ∧ laidMetH Tryd.prog Rows.fnExactCyclesOfRow.laid w) ∧ sizedMet enc Tryd.prog Tryd.f6 (OpenSpec.ofChange Rows.fnExactCyclesOfSpec) false w args)
      (Rows.fnExactCyclesOfSpec.post enc Tryd.prog Tryd.f6 false true false false) := by
  refine returnsInHanded_of_change_and (C := Tryd.checked) (X := fun w _ => laidMetH Tryd.prog Rows.fnExactCyclesOfRow.laid w) (fun _ _ _ hh h => h.of_heap hh) own started (by kernel_rfl) Tryd.func6
    (ChangeSpec.witness_at (enc := enc) (C := Tryd.checked) (os := os) (X := fun w _ => laidMetH Tryd.prog Rows.fnExactCyclesOfRow.laid w) false (laidWorld os) #[.slice none 0 0] 8 rfl (by kernel_rfl) (by kernel_rfl) (by kernel_rfl) (by kernel_rfl) (by kernel_rfl) (laid_met os)) ?_
  intro W base args ds gs before hval0 hW _ _ hL _
  have hval : ∀ (j : Nat) t v, Tryd.f6.params[j]? = some t → args[j]? = some v → Value.okWide Tryd.prog W .any base t v := hval0
  have hW' := hW
  obtain ⟨p, q, hA0, hV0, rfl, hfz, hnd⟩ := hW
  have hA : DataW.TrodAll enc Tryd.prog W 0 (fun _ => true) true Tryd.f6.params.toList args.toList ds p := hA0
  have hV : DataW.TrodVars enc Tryd.prog W (fun _ => true) ["loop.example/g00053/impl.callForms"] gs q := hV0
  rw [Tryd.params6] at hA hval
  obtain ⟨v0, vs0, d0, ds0, p0, q0, hargs, rfl, rfl, h0, r0⟩ := trodAll_cons hA
  obtain ⟨rfl, rfl, rfl⟩ := trodAll_nil r0
  obtain rfl : args = #[v0] := by cases args; simp_all
  have k0 := h0
  have lt0 : ∀ x ∈ p0, x.block < W.heap.size := fun x hx => by have := hW'.lt x (by simp [hx]); simpa using this
  obtain ⟨s0, n0, c0, O, D, A, B, C, X, rfl, m0, A0, _, _, _, _, _, x0⟩ := viewI Tryd.underlying22 Tryd.underlying33 (by kernel_rfl) rfl rfl rfl rfl rfl rfl (by kernel_rfl) (by kernel_rfl) (by kernel_rfl) (by kernel_rfl) (by kernel_rfl) (by kernel_rfl) Tryd.underlying3 Tryd.underlying3 Tryd.underlying3 Tryd.underlying3 Tryd.underlying3 Tryd.underlying31 (hval 0 22 v0 rfl rfl) h0 lt0
  obtain ⟨g, t, cs, fuel, d, p', rfl, hg, ht, hvar, hd, rfl⟩ := trodVars_one hV
  obtain rfl := Option.some.inj (gTab.symm.trans hg)
  obtain rfl := Option.some.inj (gTabType.symm.trans ht)
  obtain rfl : cs = cellsT := Option.some.inj (hvar.symm.trans (cells_of_laid hL))
  obtain ⟨rfl, rfl⟩ := DataW.Trod.unique (v := .agg cellsT) ⟨fuel, hd⟩ ⟨4, reads_table enc W _⟩
  clear hA0 hV0 hval0
  refine (walk W (forms_of_laid hL) s0 n0 c0 O D A B C X m0 A0 (fun i => word_of (x0 i))).mono fun e W' ⟨he, bel⟩ => ?_
  subst he
  have hv' : W'.var? Tryd.prog "loop.example/g00053/impl.callForms" = some cellsT := var?_below bel gTab (forms_of_laid hL).pos hvar
  have arg0 := Below.trod laidOut (by kernel_rfl) (of_decide_eq_true (by kernel_rfl)) k0 bel lt0
  exact ⟨_, rfl, _, _, _, [], _, MemPlace.row ⟨0, 0, none⟩ cellsT.size ++ [] ++ [], hW', trodAll_cons_mk (shut_bool Tryd.underlying4 _) trodAll_mk0, (trodAll_cons_mk arg0 trodAll_mk0), ⟨0, 121, cellsT, 4, [], [], hg, ht, hv', reads_table enc W' _, rfl, rfl⟩, bel.frame _, fun h => by cases h⟩
theorem said : Rows.FnExactCyclesOfSaid :=
  OpenClaim.holds_of_wide 6 Tryd.f6 rfl rfl rfl rfl rfl rfl rfl ⟨rfl, rfl, rfl, rfl, rfl⟩ rfl rfl rfl rfl rfl (by kernel_rfl) Tryd.func6 (by kernel_rfl)
    (of_decide_eq_true (by kernel_rfl)) (by unfold Func.isWrapper; first | (rw [if_pos (by decide +kernel)]; kernel_rfl) | (rw [if_neg (by decide +kernel)]; exact ⟨rfl, rfl⟩))
    (fun os started H enc _ => lifted os started H enc)
theorem plain (f : FuncId) (fn : Func) (hf : Tryd.pinned.checked.prog.funcNamed "loop.example/g00053/laws.FnExactCyclesOf" = some f) (hfn : Tryd.pinned.checked.prog.funcs[f]? = some fn) :
    false = Tryd.pinned.checked.prog.looks [] ∧ ∀ (j : Nat) t, fn.params[j]? = some t → Tryd.pinned.checked.prog.wantsStandIn t = false := by
  obtain rfl : f = 6 := Option.some.inj ((show Tryd.prog.funcNamed "loop.example/g00053/laws.FnExactCyclesOf" = some 6 by kernel_rfl).symm.trans hf) |>.symm
  obtain rfl : fn = Tryd.f6 := (Option.some.inj (Tryd.func6.symm.trans hfn)).symm
  refine ⟨by kernel_rfl, fun j t ht => ?_⟩
  rw [Tryd.params6] at ht
  obtain rfl : t = 22 := by simpa using Array.mem_of_getElem? ht
  exact (show Tryd.prog.wantsStandIn 22 = false by kernel_rfl)
theorem card : Rows.FnExactCyclesOfCardSaid :=
  Claim7.holds_tied_plain_at .later [] _ _ _ _ said (fun _ h => by cases h) (by kernel_rfl) (fun _ h => by cases h) fnExactCyclesOf_row_tie rfl ⟨rfl, rfl⟩ (by kernel_rfl) rfl plain (by kernel_rfl)
end Go.Proofs.YtcgapochcahknaaDoor.fnExactCyclesOf
namespace Go.Proofs.YtcgapochcahknaaDoor
theorem cyclesof_holds : Rows.FnExactCyclesOfCardSaid := fnExactCyclesOf.card
#print axioms cyclesof_holds
end Go.Proofs.YtcgapochcahknaaDoor
