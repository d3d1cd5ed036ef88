/- Proved: for every word a of 32 bits the law FnExactToFloat returns true (ToFloat answers as its model) and the argument and the table of forms read afterwards as before; condition: the table of forms reads as the program's text lays it (the card ties it; the pruned copy's other packages are not spoken of). -/
import Derived.Test.YtfogppgpbcelgaaDoorSmall3
import Derived.Test.YtfogppgpbcelgaaDoorCards
import Derived.Test.YtfogppgpbcelgaaDoorTie
import Derived.WalkSmall
namespace Go.Proofs.YtfogppgpbcelgaaDoor.fnExactToFloat
open Go.ChangeShapes Go.WideShapes Go.ChangeAt Go.RowKit
set_option linter.unusedVariables false
theorem i_mode (num power mode : Int) (hm : ¬ (0 ≤ mode ∧ mode ≤ 4)) (w : World) : Calls Tryd.prog 10 #[.int .i64 num, .int .i64 power, .int .i64 mode] w fun e w' => e = .returned (.int .u32 0) ∧ Below w.heap.size w w' := by
  have hg := goodMode_any mode w
  rw [decide_eq_false hm] at hg
  go_enter Tryd.func10, Tryd.ntmps10
  go_wp2_with (go_at_call 17; refine hg.mono ?_; rintro e w' ⟨rfl, hw⟩; subst w')
  go_ret
  exact ⟨rfl, Below.refl _ _⟩
theorem s_mode (num power mode : Int) (hm : ¬ (0 ≤ mode ∧ mode ≤ 4)) (w : World) : Calls Tryd.prog 9 #[.int .i64 num, .int .i64 power, .int .i64 mode] w fun e w' => e = .returned (.int .u32 0) ∧ Below w.heap.size w w' := by
  have hg := sGood_any mode w
  rw [decide_eq_false hm] at hg
  go_enter Tryd.func9, Tryd.ntmps9
  go_wp2_with (go_at_call 13; refine hg.mono ?_; rintro e w' ⟨rfl, hw⟩; subst w')
  go_ret
  exact ⟨rfl, Below.refl _ _⟩
theorem i_bad (num power mode : Int) (hm : 0 ≤ mode ∧ mode ≤ 4) (h : num = 0 ∨ power < -400 ∨ 400 < power) (w : World) : Calls Tryd.prog 10 #[.int .i64 num, .int .i64 power, .int .i64 mode] w fun e w' => e = .returned (.int .u32 0) ∧ Below w.heap.size w w' := by
  have hg := goodMode_any mode w
  rw [decide_eq_true hm] at hg
  by_cases h0 : num = 0
  · subst h0
    go_enter Tryd.func10, Tryd.ntmps10
    go_wp2_with (go_at_call 17; refine hg.mono ?_; rintro e w' ⟨rfl, hw⟩; subst w')
    go_ret
    exact ⟨rfl, Below.refl _ _⟩
  · have n0 : (num == 0) = false := by simpa using h0
    by_cases h1 : power < -400
    · clear h
      go_enter Tryd.func10, Tryd.ntmps10
      go_wp2_with (go_at_call 17; refine hg.mono ?_; rintro e w' ⟨rfl, hw⟩; subst w')
      go_ret
      exact ⟨rfl, Below.refl _ _⟩
    · have h2 : 400 < power := by omega
      clear h
      go_enter Tryd.func10, Tryd.ntmps10
      go_wp2_with (go_at_call 17; refine hg.mono ?_; rintro e w' ⟨rfl, hw⟩; subst w')
      go_ret
      exact ⟨rfl, Below.refl _ _⟩
theorem s_bad (num power mode : Int) (hm : 0 ≤ mode ∧ mode ≤ 4) (h : num = 0 ∨ power < -400 ∨ 400 < power) (w : World) : Calls Tryd.prog 9 #[.int .i64 num, .int .i64 power, .int .i64 mode] w fun e w' => e = .returned (.int .u32 0) ∧ Below w.heap.size w w' := by
  have hg := sGood_any mode w
  rw [decide_eq_true hm] at hg
  by_cases h1 : power < -400
  · clear h
    go_enter Tryd.func9, Tryd.ntmps9
    go_wp2_with (go_at_call 13; refine hg.mono ?_; rintro e w' ⟨rfl, hw⟩; subst w')
    go_ret
    exact ⟨rfl, Below.refl _ _⟩
  · by_cases h2 : 400 < power
    · clear h
      go_enter Tryd.func9, Tryd.ntmps9
      go_wp2_with (go_at_call 13; refine hg.mono ?_; rintro e w' ⟨rfl, hw⟩; subst w')
      go_ret
      exact ⟨rfl, Below.refl _ _⟩
    · obtain rfl : num = 0 := by omega
      clear h
      go_enter Tryd.func9, Tryd.ntmps9
      go_wp2_with (go_at_call 13; refine hg.mono ?_; rintro e w' ⟨rfl, hw⟩; subst w')
      go_ret
      exact ⟨rfl, Below.refl _ _⟩
theorem i_num (num power mode R z : Int) (hm : 0 ≤ mode ∧ mode ≤ 4) (h0 : ¬ num = 0) (a0 : -9223372036854775808 ≤ num) (a1 : num ≤ 9223372036854775807) (p0 : -400 ≤ power) (p1 : power ≤ 400) (hz : z = if num < 0 then -num else num) (w : World) (G : Forms w)
    (hR : ∀ v : World, Forms v → Calls Tryd.prog 18 #[.agg #[.bool (decide (num < 0)), .int .u64 z, .int .i64 power, .bool false], .int .i64 0, .int .i64 mode] v fun e w' => e = .returned (.int .u32 R) ∧ Below v.heap.size v w') :
    Calls Tryd.prog 10 #[.int .i64 num, .int .i64 power, .int .i64 mode] w fun e w' => e = .returned (.int .u32 R) ∧ Below w.heap.size w w' := by
  have hg := goodMode_any mode w
  rw [decide_eq_true hm] at hg
  have n0 : (num == 0) = false := by simpa using h0
  have q1 : ¬ power < -400 := by omega
  have q2 : ¬ 400 < power := by omega
  by_cases hn : num < 0
  · rw [if_pos hn] at hz
    subst hz
    rw [decide_eq_true hn] at hR
    have e1 : IntKind.u64.wrap num = num + 18446744073709551616 := by rw [IntKind.wrap_u64]; omega
    have e2 : IntKind.u64.wrap (-(num + 18446744073709551616)) = -num := by rw [IntKind.wrap_u64]; omega
    go_enter Tryd.func10, Tryd.ntmps10
    go_wp2_with (first | (go_at_call 17; refine hg.mono ?_; rintro e w' ⟨rfl, hw⟩; subst w') | (go_at_call 18; refine (hR _ (G.next (by repeat (first | (with_reducible refine Below.alloc ?_ (by first | omega | (simp; try omega)) _) | (with_reducible exact Below.refl _ _))))).mono ?_; rintro e w2 ⟨rfl, hb2⟩))
    go_ret
    exact ⟨rfl, by repeat (first | (with_reducible exact hb2) | (with_reducible refine Below.trans ?_ (hb2.mono (by first | omega | (simp; try omega)))) | (with_reducible refine Below.alloc ?_ (by first | omega | (simp; try omega)) _) | (with_reducible exact Below.refl _ _))⟩
  · rw [if_neg hn] at hz
    subst hz
    rw [decide_eq_false hn] at hR
    have hd : decide (z < 0) = false := by simpa using hn
    go_enter Tryd.func10, Tryd.ntmps10
    go_wp2_with (first | (go_at_call 17; refine hg.mono ?_; rintro e w' ⟨rfl, hw⟩; subst w') | (go_at_call 18; refine (hR _ (G.next (by repeat (first | (with_reducible refine Below.alloc ?_ (by first | omega | (simp; try omega)) _) | (with_reducible exact Below.refl _ _))))).mono ?_; rintro e w2 ⟨rfl, hb2⟩))
    go_ret
    exact ⟨rfl, by repeat (first | (with_reducible exact hb2) | (with_reducible refine Below.trans ?_ (hb2.mono (by first | omega | (simp; try omega)))) | (with_reducible refine Below.alloc ?_ (by first | omega | (simp; try omega)) _) | (with_reducible exact Below.refl _ _))⟩
theorem s_num (num power mode R : Int) (hm : 0 ≤ mode ∧ mode ≤ 4) (h0 : ¬ num = 0) (a0 : -9223372036854775808 ≤ num) (a1 : num ≤ 9223372036854775807) (p0 : -400 ≤ power) (p1 : power ≤ 400) (r0 : 0 ≤ R) (r1 : R < 4294967296) (w : World)
    (hT : ∀ (v : World) (V : Int) (g : Bool) (p : Option Addr) (l c : Nat), Num v 3 (.agg #[.int .i64 V, .bool g, .slice p l c]) num → Calls Tryd.prog 14 #[.agg #[.int .i64 V, .bool g, .slice p l c, .int .i64 1, .bool false, .slice none 0 0, .int .i64 power], .agg #[.int .i64 24, .int .i64 (-149), .int .i64 104], .int .i64 mode] v fun e w' => e = .returned (.int .i64 R) ∧ Below v.heap.size v w') :
    Calls Tryd.prog 9 #[.int .i64 num, .int .i64 power, .int .i64 mode] w fun e w' => e = .returned (.int .u32 R) ∧ Below w.heap.size w w' := by
  have hg := sGood_any mode w
  rw [decide_eq_true hm] at hg
  have n0 : (num == 0) = false := by simpa using h0
  have q1 : ¬ power < -400 := by omega
  have q2 : ¬ 400 < power := by omega
  have HE : Hid (Calls Tryd.prog 15 #[.int .i64 num, .int .i64 power] w fun e w' => ∃ V g p l c, e = .returned (.agg #[.int .i64 V, .bool g, .slice p l c, .int .i64 1, .bool false, .slice none 0 0, .int .i64 power]) ∧ Num w' 3 (.agg #[.int .i64 V, .bool g, .slice p l c]) num ∧ Below w.heap.size w w') := num_exact num power a0 a1 w
  go_enter Tryd.func9, Tryd.ntmps9
  go_wp2_with (first | (go_at_call 13; refine hg.mono ?_; rintro e w' ⟨rfl, hw⟩; subst w') | (go_at_call 15; refine (Hid.out HE).mono ?_; rintro e w1 ⟨V, g, p, l, c, rfl, NV, hb1⟩) | (go_at_call 16; refine (zWord w1).mono ?_; rintro e w2 ⟨rfl, hb2⟩) | (go_at_call 14; refine (hT w2 V g p l c (NV.next hb2)).mono ?_; rintro e w3 ⟨rfl, hb3⟩))
  go_ret
  exact ⟨rfl, (hb1.trans (hb2.mono hb1.size)).trans (hb3.mono (Nat.le_trans hb1.size hb2.size))⟩
/-- Both sides answer alike: one number for each three ints. -/
theorem both (num power mode : Int) (a0 : -9223372036854775808 ≤ num) (a1 : num ≤ 9223372036854775807) : ∃ R : Int,
    (∀ w : World, Calls Tryd.prog 9 #[.int .i64 num, .int .i64 power, .int .i64 mode] w fun e w' => e = .returned (.int .u32 R) ∧ Below w.heap.size w w') ∧
    (∀ w : World, Forms w → Calls Tryd.prog 10 #[.int .i64 num, .int .i64 power, .int .i64 mode] w fun e w' => e = .returned (.int .u32 R) ∧ Below w.heap.size w w') := by
  by_cases hm : 0 ≤ mode ∧ mode ≤ 4
  case neg => exact ⟨0, fun w => s_mode num power mode hm w, fun w _ => i_mode num power mode hm w⟩
  by_cases hb : num = 0 ∨ power < -400 ∨ 400 < power
  · exact ⟨0, fun w => s_bad num power mode hm hb w, fun w _ => i_bad num power mode hm hb w⟩
  obtain ⟨z, hz⟩ : ∃ z, num.natAbs = z := ⟨_, rfl⟩
  obtain ⟨R, r0, r1, hi, hs⟩ := whole_both_w (decide (num < 0)) z power mode num hm.1 hm.2 (by omega) (by omega) (by omega) (by omega) hz rfl
  refine ⟨R, fun w => s_num num power mode R hm (by omega) a0 a1 (by omega) (by omega) r0 r1 w (fun v V g p l c NV => ?_), fun w G => i_num num power mode R (z : Int) hm (by omega) a0 a1 (by omega) (by omega) (by split <;> omega) w G hi⟩
  exact hs v 3 3 V 1 g false p none l c 0 0 NV (num_small v 3 1 (by decide) (by decide)) (by decide) (by decide)
theorem walk (a0 : Int) (w0 : (Lit.int .u32 a0).wf = true) (w : World) (G : Forms w) :
    Calls Tryd.prog 3 #[.int .u32 a0] w fun e w' => e = .returned (.bool true) ∧ Below w.heap.size w w' := by
  have b0 := bounds_u32 w0
  have n0 : -2147483648 ≤ wrap32 a0 := by unfold wrap32; omega
  have n1 : wrap32 a0 ≤ 2147483647 := by unfold wrap32; omega
  obtain ⟨R, hs, hi⟩ := both (wrap32 a0) 0 0 (by omega) (by omega)
  have s5 : ∀ w : World, Calls Tryd.prog 5 #[.int .u32 a0] w fun e w' => e = .returned (.int .u32 R) ∧ Below w.heap.size w w' := by
    intro w
    go_enter Tryd.func5, Tryd.ntmps5
    go_wp2_with (go_at_call 9; refine (hs _).mono ?_; rintro e w1 ⟨rfl, hb1⟩)
    go_ret
    exact ⟨rfl, hb1⟩
  have i6 : ∀ w : World, Forms w → Calls Tryd.prog 6 #[.int .u32 a0] w fun e w' => e = .returned (.int .u32 R) ∧ Below w.heap.size w w' := by
    intro w G
    go_enter Tryd.func6, Tryd.ntmps6
    go_wp2_with (go_at_call 10; refine (hi _ G).mono ?_; rintro e w1 ⟨rfl, hb1⟩)
    go_ret
    exact ⟨rfl, hb1⟩
  go_enter Tryd.func3, Tryd.ntmps3
  go_wp2_with (first | (go_at_call 5; refine (s5 _).mono ?_; rintro e w1 ⟨rfl, hb1⟩) | (go_at_call 6; refine (i6 _ (G.next hb1)).mono ?_; rintro e w2 ⟨rfl, hb2⟩))
  go_ret
  exact ⟨rfl, hb1.trans (hb2.mono hb1.size)⟩
theorem laid_met (os : Os) : laidMet Tryd.prog Rows.fnExactToFloatRow.laid ((laidWorld os).forCall (fun _ _ => 0) ⟨#[], #[.int .u32 0], []⟩).memory :=
  laidMet_of_run' 8 (by kernel_rfl) (by kernel_rfl)
set_option maxRecDepth 100000 in
theorem lifted (os : Os) (started : os.Started) (H : Type) (enc : TypeId × Value → H) :
    ReturnsInHanded {} Tryd.checked os 3 .any (fun w args => (Rows.fnExactToFloatSpec.pre enc Tryd.prog Tryd.f3 [] false w args ∧ laidMetH Tryd.prog Rows.fnExactToFloatRow.laid w) ∧ sizedMet enc Tryd.prog Tryd.f3 (OpenSpec.ofChange Rows.fnExactToFloatSpec) false w args)
      (Rows.fnExactToFloatSpec.post enc Tryd.prog Tryd.f3 false true false false) := by
  refine returnsInHanded_of_change_and (C := Tryd.checked) (X := fun w _ => laidMetH Tryd.prog Rows.fnExactToFloatRow.laid w) (fun _ _ _ hh h => h.of_heap hh) own started (by kernel_rfl) Tryd.func3
    (ChangeSpec.witness_at (enc := enc) (C := Tryd.checked) (os := os) (X := fun w _ => laidMetH Tryd.prog Rows.fnExactToFloatRow.laid w) false (laidWorld os) #[.int .u32 0] 8 rfl (by kernel_rfl) (by kernel_rfl) (by kernel_rfl) (by kernel_rfl) (by kernel_rfl) (laid_met os)) ?_
  intro W base args ds gs before hval0 hW _ _ hL _
  have hval : ∀ (j : Nat) t v, Tryd.f3.params[j]? = some t → args[j]? = some v → Value.okWide Tryd.prog W .any base t v := hval0
  have hW' := hW
  obtain ⟨p, q, hA0, hV0, rfl, hfz, hnd⟩ := hW
  have hA : DataW.TrodAll enc Tryd.prog W 0 (fun _ => true) true Tryd.f3.params.toList args.toList ds p := hA0
  have hV : DataW.TrodVars enc Tryd.prog W (fun _ => true) ["loop.example/g00053/impl.floatForms"] gs q := hV0
  rw [Tryd.params3] at hA hval
  obtain ⟨v0, vs0, d0, ds0, p0, q0, hargs, rfl, rfl, h0, r0⟩ := trodAll_cons hA
  obtain ⟨rfl, rfl, rfl⟩ := trodAll_nil r0
  obtain rfl : args = #[v0] := by cases args; simp_all
  obtain ⟨a0, rfl, rfl, rfl, w0⟩ := open_int Tryd.underlying22 (hval 0 22 v0 rfl rfl) h0
  obtain ⟨g, t, cs, fuel, d, p', rfl, hg, ht, hvar, hd, rfl⟩ := trodVars_one hV
  obtain rfl := Option.some.inj (gTab.symm.trans hg)
  obtain rfl := Option.some.inj (gTabType.symm.trans ht)
  obtain rfl : cs = cells8 := Option.some.inj (hvar.symm.trans (cells_of_laid hL))
  obtain ⟨rfl, rfl⟩ := DataW.Trod.unique (v := .agg cells8) ⟨fuel, hd⟩ ⟨4, reads_table enc W _⟩
  clear hA0 hV0 hval0
  refine (walk a0 w0 W (forms_of_laid hL)).mono fun e W' ⟨he, bel⟩ => ?_
  subst he
  have hv' : W'.var? Tryd.prog "loop.example/g00053/impl.floatForms" = some cells8 := var?_below bel gTab (forms_of_laid hL).pos hvar
  exact ⟨_, rfl, _, _, _, [], [], MemPlace.row ⟨0, 0, none⟩ cells8.size ++ [] ++ [], hW', trodAll_cons_mk (shut_bool Tryd.underlying4 _) trodAll_mk0, (trodAll_cons_mk (shut_int Tryd.underlying22 w0) trodAll_mk0), ⟨0, 57, cells8, 4, [], [], hg, ht, hv', reads_table enc W' _, rfl, rfl⟩, bel.frame _, fun h => by cases h⟩

theorem said : Rows.FnExactToFloatSaid :=
  OpenClaim.holds_of_wide 3 Tryd.f3 rfl rfl rfl rfl rfl rfl rfl ⟨rfl, rfl, rfl, rfl, rfl⟩ rfl rfl rfl rfl rfl (by kernel_rfl) Tryd.func3 (by kernel_rfl)
    (of_decide_eq_true (by kernel_rfl)) (by unfold Func.isWrapper; first | (rw [if_pos (by decide +kernel)]; kernel_rfl) | (rw [if_neg (by decide +kernel)]; exact ⟨rfl, rfl⟩))
    (fun os started H enc _ => lifted os started H enc)

theorem plain (f : FuncId) (fn : Func) (hf : Tryd.pinned.checked.prog.funcNamed "loop.example/g00053/laws.FnExactToFloat" = some f) (hfn : Tryd.pinned.checked.prog.funcs[f]? = some fn) :
    false = Tryd.pinned.checked.prog.looks [] ∧ ∀ (j : Nat) t, fn.params[j]? = some t → Tryd.pinned.checked.prog.wantsStandIn t = false := by
  obtain rfl : f = 3 := Option.some.inj ((show Tryd.prog.funcNamed "loop.example/g00053/laws.FnExactToFloat" = some 3 by kernel_rfl).symm.trans hf) |>.symm
  obtain rfl : fn = Tryd.f3 := (Option.some.inj (Tryd.func3.symm.trans hfn)).symm
  refine ⟨by kernel_rfl, fun j t ht => ?_⟩
  rw [Tryd.params3] at ht
  obtain rfl : t = 22 := by simpa using Array.mem_of_getElem? ht
  exact (show Tryd.prog.wantsStandIn 22 = false by kernel_rfl)

theorem card : Rows.FnExactToFloatCardSaid :=
  Claim7.holds_tied_plain_at .later [] _ _ _ _ said (fun _ h => by cases h) (by kernel_rfl) (fun _ h => by cases h) fnExactToFloat_row_tie rfl ⟨rfl, rfl⟩ (by kernel_rfl) rfl plain (by kernel_rfl)

end Go.Proofs.YtfogppgpbcelgaaDoor.fnExactToFloat
namespace Go.Proofs.YtfogppgpbcelgaaDoor
theorem to_float_holds : Rows.FnExactToFloatCardSaid := fnExactToFloat.card
#print axioms to_float_holds
end Go.Proofs.YtfogppgpbcelgaaDoor
