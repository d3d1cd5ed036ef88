/- Proved: for every text, every whole number and every row of words the law FnExactCallWords returns true (CallWords answers as its model, and writes into no argument); the arguments and both tables read afterwards as before; condition: the table of float forms and the table of calls hold what the program's text lays there (the card ties it). -/
import Derived.Test.YtoloenkcfpfgcaaDoorCwG
import Derived.Test.YtoloenkcfpfgcaaDoorCards
import Derived.Test.YtoloenkcfpfgcaaDoorTie
import Derived.WalkSmall
import Derived.LaidLaws
import Derived.ChangeMaps5
import Derived.Stop.LaidErr
namespace Go.Proofs.YtoloenkcfpfgcaaDoor.fnExactCallWords
open Go.ChangeShapes Go.WideShapes Go.ChangeAt Go.RowKit
open Tk (Arg view_ints)
set_option linter.unusedVariables false
theorem laidOut : laidOutB Tryd.prog = true := by kernel_rfl
set_option maxHeartbeats 2000000 in
theorem walk (w : World) (F : Forms w) (G : Ca.Forms w) (s : ByteArray) (k1 : Int) (s2 : Option Addr) (n2 c2 : Nat) (f2 : Nat → Int) (m2 : n2 ≤ 9223372036854775807) (A2 : Arg w s2 n2 (fun i => .int .u32 (f2 i))) (z2 : ∀ i, (Lit.int .u32 (f2 i)).wf = true) :
    Calls Tryd.prog 3 #[.string s, .int .i64 k1, .slice s2 n2 c2] w fun e w' => e = .returned (.bool true) ∧ Below w.heap.size w w' := by
  by_cases hs : (1048576 : Int) < (s.size : Int)
  · clear A2
    go_enter Tryd.func3, Tryd.ntmps3
    go_wp2
    go_ret
    exact ⟨rfl, Below.refl _ _⟩
  by_cases big : (1048576 : Int) < (n2 : Int)
  · clear A2
    go_enter Tryd.func3, Tryd.ntmps3
    go_wp2
    go_ret
    exact ⟨rfl, Below.refl _ _⟩
  have hn : n2 ≤ 1048576 := by omega
  obtain ⟨R, hs4, hi6⟩ := both s k1 n2 f2 (fun i => by have := bounds_u32 (z2 i); exact ⟨by omega, by omega⟩)
  have HS : Hid (∀ (w : World) (a : Nat), Tk.Own w a n2 (fun i => .int .u32 (f2 i)) → Calls Tryd.prog 4 #[.string s, .int .i64 k1, .slice (some ⟨a, 0, none⟩) n2 n2] w fun e w' => e = .returned (.int .u32 R) ∧ Below w.heap.size w w') := hs4
  have HI : Hid (∀ (w : World) (a : Nat), Forms w → Ca.Forms w → Tk.Own w a n2 (fun i => .int .u32 (f2 i)) → Calls Tryd.prog 6 #[.string s, .int .i64 k1, .slice (some ⟨a, 0, none⟩) n2 n2] w fun e w' => e = .returned (.int .u32 R) ∧ Below w.heap.size w w') := hi6
  have HF : Hid (Forms w) := F
  have HG : Hid (Ca.Forms w) := G
  clear hs4 hi6 F G
  go_enter Tryd.func3, Tryd.ntmps3
  go_wp2_with (first | (go_at_call 5; (with_reducible show Calls Tryd.prog 5 _ w _); refine (Tk.argU (w := w) A2 c2 hn).mono ?_; rintro e w1 ⟨rfl, O1, B1⟩) | (go_at_call 4; refine ((Hid.out HS) w1 _ O1).mono ?_; rintro e w2 ⟨rfl, B2'⟩; (have B2 := B1.trans (B2'.mono B1.size)); (have A2x := A2.next B2)) | (go_at_call 5; (with_reducible show Calls Tryd.prog 5 _ w2 _); refine (Tk.argU (w := w2) A2x c2 hn).mono ?_; rintro e w3 ⟨rfl, O3, B3'⟩; (have B3 := B2.trans (B3'.mono B2.size))) | (go_at_call 6; refine ((Hid.out HI) w3 _ (HF.out.below B3) (HG.out.below B3) O3).mono ?_; rintro e w4 ⟨rfl, B4'⟩; (have B4 := B3.trans (B4'.mono B3.size)); (have A4 := A2.next B4); (have O4 := O3.next B4')) | (go_at_call 5; (with_reducible show Calls Tryd.prog 5 _ w4 _); refine (Tk.argU (w := w4) A4 c2 hn).mono ?_; rintro e w5 ⟨rfl, O5, B5'⟩; (have B5 := B4.trans (B5'.mono B4.size))) | (go_at_call 7; refine (Tk.eqU n2 w2.heap.size w4.heap.size n2 n2 f2 w5 hn (O4.next B5').cell O5.cell).mono ?_; rintro e w6 ⟨rfl, q, rfl⟩))
  go_ret
  exact ⟨rfl, below_drewN B5 q⟩
def layC (cs : Array Value) : Obj → Obj
  | .cells _ t frozen => .cells cs t frozen
  | o => o
/-- A world for the witness: the settled one, both tables holding what their initialisers lay. -/
noncomputable def laidWorld2 (os : Os) : World :=
  { World.holding Tryd.prog os ⟨#[], #[], []⟩ with heap := ((World.holding Tryd.prog os ⟨#[], #[], []⟩).heap.modify 0 (layC Ca.cellsT)).modify 1 (layC cells8) }
theorem laid_met (os : Os) : laidMet Tryd.prog Rows.fnExactCallWordsRow.laid ((laidWorld2 os).forCall (fun _ _ => 0) ⟨#[], #[.string ⟨#[]⟩, .int .i64 0, .slice none 0 0], []⟩).memory :=
  laidMet_of_run' 8 (by kernel_rfl) (by kernel_rfl)
set_option maxRecDepth 100000 in
theorem lifted (os : Os) (started : os.Started) (H : Type) (enc : TypeId × Value → H) :
    ReturnsInHanded {} Tryd.checked os 3 .any (fun w args => (Rows.fnExactCallWordsSpec.pre enc Tryd.prog Tryd.f3 [] false w args ∧ laidMetH Tryd.prog Rows.fnExactCallWordsRow.laid w) ∧ sizedMet enc Tryd.prog Tryd.f3 (OpenSpec.ofChange Rows.fnExactCallWordsSpec) false w args)
      (Rows.fnExactCallWordsSpec.post enc Tryd.prog Tryd.f3 false true false false) := by
  refine returnsInHanded_of_change_and (C := Tryd.checked) (X := fun w _ => laidMetH Tryd.prog Rows.fnExactCallWordsRow.laid w) (fun _ _ _ hh h => h.of_heap hh) own started (by kernel_rfl) Tryd.func3
    (ChangeSpec.witness_at (enc := enc) (C := Tryd.checked) (os := os) (X := fun w _ => laidMetH Tryd.prog Rows.fnExactCallWordsRow.laid w) false (laidWorld2 os) #[.string ⟨#[]⟩, .int .i64 0, .slice none 0 0] 8 rfl (by kernel_rfl) (by kernel_rfl) (by kernel_rfl) (by kernel_rfl) (by kernel_rfl) (laid_met os)) ?_
  intro W base args ds gs before hval0 hW _ _ hL _
  have hM : laidMet Tryd.prog [("loop.example/g00053/impl.floatForms", Rows.laid_loop_example_g00053_impl_floatForms), ("loop.example/g00053/impl.callForms", Rows.laid_loop_example_g00053_impl_callForms)] W := hL
  have hC := hM.tail
  have hval : ∀ (j : Nat) t v, Tryd.f3.params[j]? = some t → args[j]? = some v → Value.okWide Tryd.prog W .any base t v := hval0
  have hW' := hW
  obtain ⟨p, q, hA0, hV0, rfl, hfz, hnd⟩ := hW
  have hA : DataW.TrodAll enc Tryd.prog W 0 (fun _ => true) true Tryd.f3.params.toList args.toList ds p := hA0
  have hV : DataW.TrodVars enc Tryd.prog W (fun _ => true) ["loop.example/g00053/impl.callForms", "loop.example/g00053/impl.floatForms"] gs q := hV0
  rw [Tryd.params3] at hA hval
  obtain ⟨v0, vs0, d0, ds0, p0, q0, hargs, rfl, rfl, h0, r0⟩ := trodAll_cons hA
  obtain ⟨v1, vs1, d1, ds1, p1, q1, rfl, rfl, rfl, h1, r1⟩ := trodAll_cons r0
  obtain ⟨v2, vs2, d2, ds2, p2, q2, rfl, rfl, rfl, h2, r2⟩ := trodAll_cons r1
  obtain ⟨rfl, rfl, rfl⟩ := trodAll_nil r2
  obtain rfl : args = #[v0, v1, v2] := by cases args; simp_all
  have k2 := h2
  have lt2 : ∀ x ∈ p2, x.block < W.heap.size := fun x hx => by have := hW'.lt x (by simp [hx]); simpa using this
  obtain ⟨a0, rfl, rfl, rfl, w0⟩ := Go.ChangeMaps.open_string Tryd.underlying9 (hval 0 9 v0 rfl rfl) h0
  obtain ⟨a1, rfl, rfl, rfl, w1⟩ := open_int Tryd.underlying3 (hval 1 3 v1 rfl rfl) h1
  obtain ⟨s2, n2, c2, f2, rfl, m2, A2, z2⟩ := view_ints Tryd.underlying22 Tryd.underlying23 (by kernel_rfl) (hval 2 22 v2 rfl rfl) h2 lt2
  obtain ⟨dc, gs', rfl⟩ : ∃ d ds, gs = d :: ds := by
    cases gs with
    | nil => simp [DataW.TrodVars] at hV
    | cons d ds => exact ⟨d, ds, rfl⟩
  obtain ⟨g, t, cs, fuel, pc, qc, hg, ht, hvar, hd, hT, rfl⟩ := hV
  obtain ⟨g', t', cs', fuel', d', pf, rfl, hg', ht', hvar', hd', rfl⟩ := trodVars_one hT
  obtain rfl := Option.some.inj (Ca.gTab.symm.trans hg)
  obtain rfl := Option.some.inj (Ca.gTabType.symm.trans ht)
  obtain rfl : cs = Ca.cellsT := Option.some.inj (hvar.symm.trans (Ca.cells_of_laid hC))
  obtain ⟨rfl, rfl⟩ := DataW.Trod.unique (v := .agg Ca.cellsT) ⟨fuel, hd⟩ ⟨4, Ca.reads_table enc W _⟩
  obtain rfl := Option.some.inj (gTab.symm.trans hg')
  obtain rfl := Option.some.inj (gTabType.symm.trans ht')
  obtain rfl : cs' = cells8 := Option.some.inj (hvar'.symm.trans (cells_of_laid hM))
  obtain ⟨rfl, rfl⟩ := DataW.Trod.unique (v := .agg cells8) ⟨fuel', hd'⟩ ⟨4, reads_table enc W _⟩
  clear hA0 hV0 hval0
  refine (walk W (forms_of_laid hM) (Ca.forms_of_laid hC) a0 a1 s2 n2 c2 f2 m2 A2 z2).mono fun e W' ⟨he, bel⟩ => ?_
  subst he
  have hv1 : W'.var? Tryd.prog "loop.example/g00053/impl.callForms" = some Ca.cellsT := var?_below bel Ca.gTab (Ca.forms_of_laid hC).pos hvar
  have hv2 : W'.var? Tryd.prog "loop.example/g00053/impl.floatForms" = some cells8 := var?_below bel gTab (forms_of_laid hM).pos hvar'
  have arg2 := Below.trod laidOut (by kernel_rfl) (of_decide_eq_true (by kernel_rfl)) k2 bel lt2
  exact ⟨_, rfl, _, _, _, [], _, MemPlace.row ⟨0, 0, none⟩ Ca.cellsT.size ++ [] ++ (MemPlace.row ⟨1, 0, none⟩ cells8.size ++ [] ++ []), hW', trodAll_cons_mk (shut_bool Tryd.underlying4 _) trodAll_mk0, trodAll_cons_mk (Go.ChangeMaps.shut_string Tryd.underlying9 w0) (trodAll_cons_mk (shut_int Tryd.underlying3 w1) (trodAll_cons_mk arg2 trodAll_mk0)), ⟨0, 39, Ca.cellsT, 4, [], _, hg, ht, hv1, Ca.reads_table enc W' _, ⟨1, 42, cells8, 4, [], [], hg', ht', hv2, reads_table enc W' _, rfl, rfl⟩, rfl⟩, bel.frame _, fun h => by cases h⟩
theorem said : Rows.FnExactCallWordsSaid :=
  OpenClaim.holds_of_wide 3 Tryd.f3 rfl rfl rfl rfl rfl rfl rfl ⟨rfl, rfl, rfl, rfl, rfl⟩ rfl rfl rfl rfl rfl (by kernel_rfl) Tryd.func3 (by kernel_rfl)
    (of_decide_eq_true (by kernel_rfl)) (by unfold Func.isWrapper; first | (rw [if_pos (by decide +kernel)]; kernel_rfl) | (rw [if_neg (by decide +kernel)]; exact ⟨rfl, rfl⟩))
    (fun os started H enc _ => lifted os started H enc)
theorem plain (f : FuncId) (fn : Func) (hf : Tryd.pinned.checked.prog.funcNamed "loop.example/g00053/laws.FnExactCallWords" = some f) (hfn : Tryd.pinned.checked.prog.funcs[f]? = some fn) :
    false = Tryd.pinned.checked.prog.looks [] ∧ ∀ (j : Nat) t, fn.params[j]? = some t → Tryd.pinned.checked.prog.wantsStandIn t = false := by
  obtain rfl : f = 3 := Option.some.inj ((show Tryd.prog.funcNamed "loop.example/g00053/laws.FnExactCallWords" = some 3 by kernel_rfl).symm.trans hf) |>.symm
  obtain rfl : fn = Tryd.f3 := (Option.some.inj (Tryd.func3.symm.trans hfn)).symm
  refine ⟨by kernel_rfl, fun j t ht => ?_⟩
  rw [Tryd.params3] at ht
  rcases (by simpa using Array.mem_of_getElem? ht : t = 9 ∨ t = 3 ∨ t = 22) with rfl | rfl | rfl
  · exact (show Tryd.prog.wantsStandIn 9 = false by kernel_rfl)
  · exact (show Tryd.prog.wantsStandIn 3 = false by kernel_rfl)
  · exact (show Tryd.prog.wantsStandIn 22 = false by kernel_rfl)
theorem card : Rows.FnExactCallWordsCardSaid :=
  Claim7.holds_tied_plain_at .later [] _ _ _ _ said (fun _ h => by cases h) (by kernel_rfl) (fun _ h => by cases h) fnExactCallWords_row_tie rfl ⟨rfl, rfl⟩ (by kernel_rfl) rfl plain (by kernel_rfl)
end Go.Proofs.YtoloenkcfpfgcaaDoor.fnExactCallWords
namespace Go.Proofs.YtoloenkcfpfgcaaDoor
theorem call_words_holds : Rows.FnExactCallWordsCardSaid := fnExactCallWords.card
#print axioms call_words_holds
end Go.Proofs.YtoloenkcfpfgcaaDoor
