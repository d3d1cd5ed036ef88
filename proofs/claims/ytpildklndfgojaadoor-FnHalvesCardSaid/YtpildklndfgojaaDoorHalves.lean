/- Proved: for every two lists of bytes the law FnHalves returns true (a drawn half becomes a word and the same half again, whatever the mode; a drawn word's halves down and up lie on both sides of it, and its half by the mode is the model's) and the arguments read afterwards as before. Condition, tied to the program's text by the card: the table of float forms reads as the program's text lays it. -/
import Derived.Test.YtpildklndfgojaaDoorDraw
import Derived.Test.YtpildklndfgojaaDoorHalfM
import Derived.Test.YtpildklndfgojaaDoorHalfS
import Derived.Test.YtpildklndfgojaaDoorCards
import Derived.Test.YtpildklndfgojaaDoorTie
namespace Go.Proofs.YtpildklndfgojaaDoor.fnHalves
open Go.ChangeShapes Go.WideShapes Go.ChangeAt Go.RowKit
open Pl (Only Own Arg view_ints)
set_option linter.unusedVariables false
theorem laidOut : laidOutB Tryd.prog = true := by kernel_rfl
theorem step_below {w a b : World} (h : Below w.heap.size w a) (k : Below a.heap.size a b) : Below w.heap.size w b := h.trans (k.mono h.size)
set_option maxHeartbeats 4000000 in
theorem walk (w : World) (G : Forms w) (s0 : Option Addr) (n0 c0 : Nat) (f0 : Nat → Int) (m0 : n0 ≤ 9223372036854775807) (A0 : Arg w s0 n0 (fun i => .int .u8 (f0 i))) (z0 : ∀ i, (Lit.int .u8 (f0 i)).wf = true) (s1 : Option Addr) (n1 c1 : Nat) (f1 : Nat → Int) (m1 : n1 ≤ 9223372036854775807) (A1 : Arg w s1 n1 (fun i => .int .u8 (f1 i))) (z1 : ∀ i, (Lit.int .u8 (f1 i)).wf = true) :
    Calls Tryd.prog 3 #[.slice s0 n0 c0, .slice s1 n1 c1] w fun e w' => e = .returned (.bool true) ∧ Below w.heap.size w w' := by
  by_cases big0 : 1048576 < n0
  · have big' : (1048576 : Int) < (n0 : Int) := by omega
    go_enter Tryd.func3, Tryd.ntmps3
    go_wp2
    go_ret
    exact ⟨rfl, Below.refl _ _⟩
  have hn0 : n0 ≤ 1048576 := by omega
  have hn0' : (n0 : Int) ≤ 1048576 := by omega
  by_cases big1 : 1048576 < n1
  · have big' : (1048576 : Int) < (n1 : Int) := by omega
    go_enter Tryd.func3, Tryd.ntmps3
    go_wp2
    go_ret
    exact ⟨rfl, Below.refl _ _⟩
  have hn1 : n1 ≤ 1048576 := by omega
  have hn1' : (n1 : Int) ≤ 1048576 := by omega
  have hf0 : ∀ i, 0 ≤ f0 i ∧ f0 i < 256 := fun i => by have := bounds_u8 (z0 i); omega
  have hf1 : ∀ i, 0 ≤ f1 i ∧ f1 i < 256 := fun i => by have := bounds_u8 (z1 i); omega
  have b0 : Below w.heap.size w w := Below.refl _ _
  clear z0 z1 m0 m1 big0 big1
  go_enter Tryd.func3, Tryd.ntmps3
  go_wp2_with (first | (go_at_call 8; (with_reducible show Calls Tryd.prog 8 _ w _); refine (draw8 w s0 n0 c0 f0 A0 hn0 hf0).mono ?_; rintro e w1 ⟨h, h0, h1, rfl, hb⟩; (have ff := Forms.next (by assumption) hb); (have bb := step_below (w := w) (by assumption) hb); clear hb; obtain ⟨R, hs, hi, hW⟩ := fnExactWordOfHalf.both h h0; (have HS : Hid (∀ v : World, Calls Tryd.prog 10 #[.int .u32 h] v fun e w' => e = .returned (.int .u32 R) ∧ Below v.heap.size v w') := hs); (have HI : Hid (∀ v : World, Forms v → Calls Tryd.prog 9 #[.int .u32 h] v fun e w' => e = .returned (.int .u32 R) ∧ Below v.heap.size v w') := hi); (have HW : Hid (fnExactWordOfHalf.WordR h R) := hW); clear hs hi hW) | (go_at_call 9; (with_reducible show Calls Tryd.prog 9 #[Value.int IntKind.u32 h] _ _); refine ((Hid.out HI) _ (by assumption)).mono ?_; rintro e w1 ⟨rfl, hb⟩; (have ff := Forms.next (by assumption) hb); (have bb := step_below (w := w) (by assumption) hb); clear hb) | (go_at_call 10; refine ((Hid.out HS) _).mono ?_; rintro e w1 ⟨rfl, hb⟩; (have ff := Forms.next (by assumption) hb); (have bb := step_below (w := w) (by assumption) hb); clear hb) | (go_at_call 11; refine (draw11 _ s1 n1 c1 f1 (A1.next (by assumption)) hn1 hf1).mono ?_; rintro e w1 ⟨a, m, a0, a1, m0, m1, rfl, hb⟩; (have ff := Forms.next (by assumption) hb); (have bb := step_below (w := w) (by assumption) hb); clear hb; obtain ⟨R4, W4, p0, p1, hd, hdw, hc4⟩ := lohi a 4 (Or.inr rfl) a0 a1; obtain ⟨R3, W3, q0, q1, hu, huw, hc3⟩ := lohi a 3 (Or.inl rfl) a0 a1; rw [if_pos rfl] at hc4; rw [if_neg (by decide)] at hc3; obtain ⟨RH, hsh, hih⟩ := fnExactHalfOf.both a m a0 a1; (have K1 : Hid (∀ v : World, Forms v → Calls Tryd.prog 13 #[.int .u32 a, .int .i64 4] v fun e w' => e = .returned (.int .u32 R4) ∧ Below v.heap.size v w') := hd); (have K2 : Hid (∀ v : World, Forms v → Calls Tryd.prog 9 #[.int .u32 R4] v fun e w' => e = .returned (.int .u32 W4) ∧ Below v.heap.size v w') := hdw); (have K3 : Hid (∀ v : World, Forms v → Calls Tryd.prog 13 #[.int .u32 a, .int .i64 3] v fun e w' => e = .returned (.int .u32 R3) ∧ Below v.heap.size v w') := hu); (have K4 : Hid (∀ v : World, Forms v → Calls Tryd.prog 9 #[.int .u32 R3] v fun e w' => e = .returned (.int .u32 W3) ∧ Below v.heap.size v w') := huw); (have K5 : Hid (∀ v : World, Calls Tryd.prog 15 #[.int .u32 a, .int .i64 m] v fun e w' => e = .returned (.int .u32 RH) ∧ Below v.heap.size v w') := hsh); (have K6 : Hid (∀ v : World, Forms v → Calls Tryd.prog 13 #[.int .u32 a, .int .i64 m] v fun e w' => e = .returned (.int .u32 RH) ∧ Below v.heap.size v w') := hih); clear hd hdw hu huw hsh hih; (have gm : ∃ g : Bool, decide (0 ≤ m ∧ m ≤ 4) = g := ⟨_, rfl⟩); obtain ⟨g, hg⟩ := gm; (have HG : Hid (decide (0 ≤ m ∧ m ≤ 4) = g) := hg); clear hg; cases g) | (go_at_call 12; refine (sGood_any m _).mono ?_; rw [HG.out]; rintro e w' ⟨rfl, hw⟩; subst w') | (go_at_call 13; (with_reducible show Calls Tryd.prog 13 #[Value.int IntKind.u32 a, Value.int IntKind.i64 4] _ _); refine ((Hid.out K1) _ (by assumption)).mono ?_; rintro e w1 ⟨rfl, hb⟩; (have ff := Forms.next (by assumption) hb); (have bb := step_below (w := w) (by assumption) hb); clear hb) | (go_at_call 13; (with_reducible show Calls Tryd.prog 13 #[Value.int IntKind.u32 a, Value.int IntKind.i64 3] _ _); refine ((Hid.out K3) _ (by assumption)).mono ?_; rintro e w1 ⟨rfl, hb⟩; (have ff := Forms.next (by assumption) hb); (have bb := step_below (w := w) (by assumption) hb); clear hb) | (go_at_call 13; (with_reducible show Calls Tryd.prog 13 #[Value.int IntKind.u32 a, Value.int IntKind.i64 m] _ _); refine ((Hid.out K6) _ (by assumption)).mono ?_; rintro e w1 ⟨rfl, hb⟩; (have ff := Forms.next (by assumption) hb); (have bb := step_below (w := w) (by assumption) hb); clear hb) | (go_at_call 13; (with_reducible show Calls Tryd.prog 13 #[Value.int IntKind.u32 R, Value.int IntKind.i64 m] _ _); first | (refine (fnExactHalfOf.iH_bad R m (of_decide_eq_false HG.out) _).mono ?_; rintro e w1 ⟨rfl, hb⟩; (have ff := Forms.next (by assumption) hb); (have bb := step_below (w := w) (by assumption) hb); clear hb) | (refine (back h R m (of_decide_eq_true HG.out) h0 (by omega) HW.out (by first | omega | (intro hh; simp_all)) _ (by assumption)).mono ?_; rintro e w1 ⟨rfl, hb⟩; (have ff := Forms.next (by assumption) hb); (have bb := step_below (w := w) (by assumption) hb); clear hb)) | (go_at_call 9; (with_reducible show Calls Tryd.prog 9 #[Value.int IntKind.u32 R4] _ _); refine ((Hid.out K2) _ (by assumption)).mono ?_; rintro e w1 ⟨rfl, hb⟩; (have ff := Forms.next (by assumption) hb); (have bb := step_below (w := w) (by assumption) hb); clear hb) | (go_at_call 9; (with_reducible show Calls Tryd.prog 9 #[Value.int IntKind.u32 R3] _ _); refine ((Hid.out K4) _ (by assumption)).mono ?_; rintro e w1 ⟨rfl, hb⟩; (have ff := Forms.next (by assumption) hb); (have bb := step_below (w := w) (by assumption) hb); clear hb) | (go_at_call 14; (with_reducible show Calls Tryd.prog 14 #[Value.int IntKind.u32 W4, Value.int IntKind.u32 a] _ _); refine (Cm.impl_any W4 a p0 p1 a0 a1 _).mono ?_; rintro e w' ⟨rfl, hw⟩; subst w') | (go_at_call 14; (with_reducible show Calls Tryd.prog 14 #[Value.int IntKind.u32 a, Value.int IntKind.u32 W3] _ _); refine (Cm.impl_any a W3 a0 a1 q0 q1 _).mono ?_; rintro e w' ⟨rfl, hw⟩; subst w') | (go_at_call 15; refine ((Hid.out K5) _).mono ?_; rintro e w1 ⟨rfl, hb⟩; (have ff := Forms.next (by assumption) hb); (have bb := step_below (w := w) (by assumption) hb); clear hb))
  all_goals go_ret
  all_goals first | exact ⟨rfl, by assumption⟩ | (refine ⟨?_, by assumption⟩; show Ending.returned (Value.bool (Cm.cmpI W4 a != 1 && Cm.cmpI a W3 != 1)) = _; rw [show (Cm.cmpI W4 a != 1) = true by simpa using hc4, show (Cm.cmpI a W3 != 1) = true by simpa using hc3]; rfl)
theorem laid_met (os : Os) : laidMet Tryd.prog Rows.fnHalvesRow.laid ((laidWorld os).forCall (fun _ _ => 0) ⟨#[], #[.slice none 0 0, .slice none 0 0], []⟩).memory :=
  laidMet_of_run' 8 (by kernel_rfl) (by kernel_rfl)
set_option maxRecDepth 100000 in
theorem lifted (os : Os) (started : os.Started) (H : Type) (enc : TypeId × Value → H) :
    ReturnsInHanded {} Tryd.checked os 3 .any (fun w args => (Rows.fnHalvesSpec.pre enc Tryd.prog Tryd.f3 [] false w args ∧ laidMetH Tryd.prog Rows.fnHalvesRow.laid w) ∧ sizedMet enc Tryd.prog Tryd.f3 (OpenSpec.ofChange Rows.fnHalvesSpec) false w args)
      (Rows.fnHalvesSpec.post enc Tryd.prog Tryd.f3 false true false false) := by
  refine returnsInHanded_of_change_and (C := Tryd.checked) (X := fun w _ => laidMetH Tryd.prog Rows.fnHalvesRow.laid w) (fun _ _ _ hh h => h.of_heap hh) own started (by kernel_rfl) Tryd.func3
    (ChangeSpec.witness_at (enc := enc) (C := Tryd.checked) (os := os) (X := fun w _ => laidMetH Tryd.prog Rows.fnHalvesRow.laid w) false (laidWorld os) #[.slice none 0 0, .slice none 0 0] 8 rfl (by kernel_rfl) (by kernel_rfl) (by kernel_rfl) (by kernel_rfl) (by kernel_rfl) (laid_met os)) ?_
  intro W base args ds gs before hval0 hW _ _ hL _
  have hval : ∀ (j : Nat) t v, Tryd.f3.params[j]? = some t → args[j]? = some v → Value.okWide Tryd.prog W .any base t v := hval0
  have hW' := hW
  obtain ⟨p, q, hA0, hV0, rfl, hfz, hnd⟩ := hW
  have hA : DataW.TrodAll enc Tryd.prog W 0 (fun _ => true) true Tryd.f3.params.toList args.toList ds p := hA0
  have hV : DataW.TrodVars enc Tryd.prog W (fun _ => true) ["loop.example/g00053/impl.floatForms"] gs q := hV0
  rw [Tryd.params3] at hA hval
  obtain ⟨v0, vs0, d0, ds0, p0, q0, hargs, rfl, rfl, h0, r0⟩ := trodAll_cons hA
  obtain ⟨v1, vs1, d1, ds1, p1, q1, rfl, rfl, rfl, h1, r1⟩ := trodAll_cons r0
  obtain ⟨rfl, rfl, rfl⟩ := trodAll_nil r1
  obtain rfl : args = #[v0, v1] := by cases args; simp_all
  have k0 := h0
  have k1 := h1
  have lt0 : ∀ x ∈ p0, x.block < W.heap.size := fun x hx => by have := hW'.lt x (by simp [hx]); simpa using this
  have lt1 : ∀ x ∈ p1, x.block < W.heap.size := fun x hx => by have := hW'.lt x (by simp [hx]); simpa using this
  obtain ⟨s0, n0, c0, f0, rfl, m0, A0, z0⟩ := view_ints Tryd.underlying22 Tryd.underlying5 (by kernel_rfl) (hval 0 22 v0 rfl rfl) h0 lt0
  obtain ⟨s1, n1, c1, f1, rfl, m1, A1, z1⟩ := view_ints Tryd.underlying22 Tryd.underlying5 (by kernel_rfl) (hval 1 22 v1 rfl rfl) h1 lt1
  obtain ⟨g, t, cs, fuel, d, p', rfl, hg, ht, hvar, hd, rfl⟩ := trodVars_one hV
  obtain rfl := Option.some.inj (gTab.symm.trans hg)
  obtain rfl := Option.some.inj (gTabType.symm.trans ht)
  obtain rfl : cs = cells8 := Option.some.inj (hvar.symm.trans (cells_of_laid hL))
  obtain ⟨rfl, rfl⟩ := DataW.Trod.unique (v := .agg cells8) ⟨fuel, hd⟩ ⟨4, reads_table enc W _⟩
  clear hA0 hV0 hval0
  refine (walk W (forms_of_laid hL) s0 n0 c0 f0 m0 A0 z0 s1 n1 c1 f1 m1 A1 z1).mono fun e W' ⟨he, bel⟩ => ?_
  subst he
  have hv' : W'.var? Tryd.prog "loop.example/g00053/impl.floatForms" = some cells8 := var?_below bel gTab (forms_of_laid hL).pos hvar
  have arg0 := Below.trod laidOut (by kernel_rfl) (of_decide_eq_true (by kernel_rfl)) k0 bel lt0
  have arg1 := Below.trod laidOut (by kernel_rfl) (of_decide_eq_true (by kernel_rfl)) k1 bel lt1
  exact ⟨_, rfl, _, _, _, [], _, MemPlace.row ⟨0, 0, none⟩ cells8.size ++ [] ++ [], hW', trodAll_cons_mk (shut_bool Tryd.underlying4 _) trodAll_mk0, trodAll_cons_mk arg0 (trodAll_cons_mk arg1 trodAll_mk0), ⟨0, 59, cells8, 4, [], [], hg, ht, hv', reads_table enc W' _, rfl, rfl⟩, bel.frame _, fun h => by cases h⟩
theorem said : Rows.FnHalvesSaid :=
  OpenClaim.holds_of_wide 3 Tryd.f3 rfl rfl rfl rfl rfl rfl rfl ⟨rfl, rfl, rfl, rfl, rfl⟩ rfl rfl rfl rfl rfl (by kernel_rfl) Tryd.func3 (by kernel_rfl)
    (of_decide_eq_true (by kernel_rfl)) (by unfold Func.isWrapper; first | (rw [if_pos (by decide +kernel)]; kernel_rfl) | (rw [if_neg (by decide +kernel)]; exact ⟨rfl, rfl⟩))
    (fun os started H enc _ => lifted os started H enc)
theorem plain (f : FuncId) (fn : Func) (hf : Tryd.pinned.checked.prog.funcNamed "loop.example/g00053/laws.FnHalves" = some f) (hfn : Tryd.pinned.checked.prog.funcs[f]? = some fn) :
    true = Tryd.pinned.checked.prog.looks [] ∧ ∀ (j : Nat) t, fn.params[j]? = some t → Tryd.pinned.checked.prog.wantsStandIn t = false := by
  obtain rfl : f = 3 := Option.some.inj ((show Tryd.prog.funcNamed "loop.example/g00053/laws.FnHalves" = some 3 by kernel_rfl).symm.trans hf) |>.symm
  obtain rfl : fn = Tryd.f3 := (Option.some.inj (Tryd.func3.symm.trans hfn)).symm
  refine ⟨by kernel_rfl, fun j t ht => ?_⟩
  rw [Tryd.params3] at ht
  obtain rfl : t = 22 := by simpa using Array.mem_of_getElem? ht
  exact (show Tryd.prog.wantsStandIn 22 = false by kernel_rfl)
theorem card : Rows.FnHalvesCardSaid :=
  Claim7.holds_tied_plain_at .later [] _ _ _ _ said (fun _ h => by cases h) (by kernel_rfl) (fun _ h => by cases h) fnHalves_row_tie rfl ⟨rfl, rfl⟩ (by kernel_rfl) rfl plain (by kernel_rfl)
end Go.Proofs.YtpildklndfgojaaDoor.fnHalves
namespace Go.Proofs.YtpildklndfgojaaDoor
theorem halves_holds : Rows.FnHalvesCardSaid := fnHalves.card
#print axioms halves_holds
end Go.Proofs.YtpildklndfgojaaDoor
