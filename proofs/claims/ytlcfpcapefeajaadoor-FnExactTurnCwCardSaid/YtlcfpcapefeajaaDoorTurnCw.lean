/- Proved: for every complex number (two words) and every int the law FnExactTurnCw returns true (TurnCw answers as its model) and the arguments read afterwards as before; conditions: the table of float forms holds what its initialiser lays (the card ties it). -/
import Derived.Test.YtlcfpcapefeajaaDoorCards
import Derived.Test.YtlcfpcapefeajaaDoorTie
import Derived.Test.YtlcfpcapefeajaaDoorTurn
import Derived.Lib.SmallJoins
import Derived.Carry
namespace Go.Proofs.YtlcfpcapefeajaaDoor.fnExactTurnCw
open Go.ChangeShapes Go.WideShapes Go.ChangeAt Go.RowKit
set_option linter.unusedVariables false
theorem laidOut : laidOutB Tryd.prog = true := by kernel_rfl
theorem cells24 : Tryd.prog.cellsOf 24 = 2 := by kernel_rfl
theorem to10 (a b : Int) (w : World) : Calls Tryd.prog 10 #[.agg #[.int .u32 a, .int .u32 b]] w fun e w' => e = .returned (.agg #[.int .u32 a, .int .u32 b]) ∧ Below w.heap.size w w' := by
  go_enter Tryd.func10, Tryd.ntmps10
  go_wp2
  exact bodyPost_ret (v := .agg #[.int .u32 a, .int .u32 b]) (by simp [results, Tryd.results10, go_sem]) rfl ⟨rfl, by repeat (first | exact Below.refl _ _ | apply Below.drew | refine Below.setCell ?_ (by simp) _ | refine Below.alloc ?_ (by first | (simp; done) | (simp; omega)) _)⟩
theorem eq12 (a b : Int) (w : World) : Calls Tryd.prog 12 #[.agg #[.int .u32 a, .int .u32 b], .agg #[.int .u32 a, .int .u32 b]] w fun e w' => e = .returned (.bool true) ∧ Below w.heap.size w w' := by
  go_enter Tryd.func12, Tryd.ntmps12
  go_wp2
  go_ret
  exact ⟨rfl, by repeat (first | exact Below.refl _ _ | apply Below.drew | refine Below.setCell ?_ (by simp) _ | refine Below.alloc ?_ (by first | (simp; done) | (simp; omega)) _)⟩
structure Held (k : Nat) (w0 w : World) (v0 v1 : Value) : Prop where
  c0 : w.cell? ⟨k, 0, none⟩ = some v0
  c1 : w.cell? ⟨k, 1, none⟩ = some v1
  lt : k < w.heap.size
theorem Held.next {k : Nat} {w0 w w' : World} {v0 v1 : Value} (h : Held k w0 w v0 v1) (hb : Below w.heap.size w w') : Held k w0 w' v0 v1 :=
  ⟨(hb.cell (p := ⟨k, 0, none⟩) h.lt).trans h.c0, (hb.cell (p := ⟨k, 1, none⟩) h.lt).trans h.c1, by have := hb.size; have := h.lt; omega⟩
theorem held_new (w : World) (v0 v1 : Value) (t : Nat) : Held w.heap.size w (w.alloc (.cells #[v0, v1] t)) v0 v1 :=
  ⟨by rw [cell_of_row _ w.heap.size 0 #[v0, v1] t (0, 0) (heap_alloc_new w _)]; rfl, by rw [cell_of_row _ w.heap.size 1 #[v0, v1] t (0, 0) (heap_alloc_new w _)]; rfl, by simp⟩
set_option maxHeartbeats 2000000 in
theorem walk (a b q : Int) (w : World) (G : Forms w) :
    Calls Tryd.prog 5 #[.agg #[.int .u32 a, .int .u32 b], .int .i64 q] w fun e w' => e = .returned (.bool true) ∧ Below w.heap.size w w' := by
  obtain ⟨p, hp⟩ : ∃ p, turnA a b q = p := ⟨_, rfl⟩
  obtain ⟨r, hr⟩ : ∃ r, turnB a b q = r := ⟨_, rfl⟩
  have tS := fun w' => turnS a b q w'
  have tI := fun w' G' => turnI a b q w' G'
  rw [hp, hr] at tS tI
  have HS : Hid (∀ w', _) := tS
  have HI : Hid (∀ w', ∀ G' : Forms w', _) := tI
  clear tS tI hp hr
  have b0 : Below w.heap.size w (w.alloc (.cells #[.int .u32 a, .int .u32 b] 24)) := (Below.refl _ _).alloc (Nat.le_refl _) _
  have h0 := held_new w (.int .u32 a) (.int .u32 b) 24
  go_enter Tryd.func5, Tryd.ntmps5
  go_wp2_with (first | (go_at_call 10; (with_reducible show Calls Tryd.prog 10 _ (w.alloc _) _); refine (to10 a b _).mono ?_; rintro e w1 ⟨rfl, c1⟩; have b1 := b0.trans (c1.mono b0.size); have h1 := h0.next c1) | (go_at_call 15; refine (HS.out _).mono ?_; rintro e w2 ⟨rfl, c2⟩; have b2 := b1.trans (c2.mono b1.size); have h2 := h1.next c2; (have b3 : Below w.heap.size w (w2.alloc (.cells #[.int .u32 p, .int .u32 r] 25)) := b2.trans (((Below.refl _ _).alloc (Nat.le_refl _) _).mono b2.size)); have h3 := h2.next ((Below.refl _ _).alloc (Nat.le_refl _) (.cells #[.int .u32 p, .int .u32 r] 25)); have k3 := held_new w2 (.int .u32 p) (.int .u32 r) 25; have d0 := h3.c0; have d1 := h3.c1) | (go_at_call 10; (with_reducible show Calls Tryd.prog 10 _ (w2.alloc _) _); refine (to10 a b _).mono ?_; rintro e w4 ⟨rfl, c4⟩; have b4 := b3.trans (c4.mono b3.size); have k4 := k3.next c4) | (go_at_call 16; refine (HI.out _ (G.below b4)).mono ?_; rintro e w5 ⟨rfl, c5⟩; have b5 := b4.trans (c5.mono b4.size); have k5 := k4.next c5; (have b6 : Below w.heap.size w (w5.alloc (.cells #[.int .u32 p, .int .u32 r] 25)) := b5.trans (((Below.refl _ _).alloc (Nat.le_refl _) _).mono b5.size)); have k6 := k5.next ((Below.refl _ _).alloc (Nat.le_refl _) (.cells #[.int .u32 p, .int .u32 r] 25)); have e0 := k6.c0; have e1 := k6.c1) | (go_at_call 12; refine (eq12 p r _).mono ?_; rintro e w7 ⟨rfl, c7⟩))
  go_ret
  exact ⟨rfl, b6.trans (c7.mono b6.size)⟩
theorem laid_met (os : Os) : laidMet Tryd.prog Rows.fnExactTurnCwRow.laid ((laidWorld os).forCall (fun _ _ => 0) ⟨#[], #[.agg #[.int .u32 0, .int .u32 0], .int .i64 0], []⟩).memory :=
  laidMet_of_run' 8 (by kernel_rfl) (by kernel_rfl)
set_option maxRecDepth 100000 in
theorem lifted (os : Os) (started : os.Started) (H : Type) (enc : TypeId × Value → H) :
    ReturnsInHanded {} Tryd.checked os 5 .any (fun w args => (Rows.fnExactTurnCwSpec.pre enc Tryd.prog Tryd.f5 [] false w args ∧ laidMetH Tryd.prog Rows.fnExactTurnCwRow.laid w) ∧ sizedMet enc Tryd.prog Tryd.f5 (OpenSpec.ofChange Rows.fnExactTurnCwSpec) false w args)
      (Rows.fnExactTurnCwSpec.post enc Tryd.prog Tryd.f5 false true false false) := by
  refine returnsInHanded_of_change_and (C := Tryd.checked) (X := fun w _ => laidMetH Tryd.prog Rows.fnExactTurnCwRow.laid w) (fun _ _ _ hh h => h.of_heap hh) own started (by kernel_rfl) Tryd.func5
    (ChangeSpec.witness_at (enc := enc) (C := Tryd.checked) (os := os) (X := fun w _ => laidMetH Tryd.prog Rows.fnExactTurnCwRow.laid w) false (laidWorld os) #[.agg #[.int .u32 0, .int .u32 0], .int .i64 0] 8 rfl (by kernel_rfl) (by kernel_rfl) (by kernel_rfl) (by kernel_rfl) (by kernel_rfl) (laid_met os)) ?_
  intro W base args ds gs before hval0 hW _ _ hL _
  have hval : ∀ (j : Nat) t v, Tryd.f5.params[j]? = some t → args[j]? = some v → Value.okWide Tryd.prog W .any base t v := hval0
  have hW' := hW
  obtain ⟨p, q, hA0, hV0, rfl, hfz, hnd⟩ := hW
  have hA : DataW.TrodAll enc Tryd.prog W 0 (fun _ => true) true Tryd.f5.params.toList args.toList ds p := hA0
  have hV : DataW.TrodVars enc Tryd.prog W (fun _ => true) ["loop.example/g00053/impl.floatForms"] gs q := hV0
  rw [Tryd.params5] at hA hval
  obtain ⟨v0, vs0, d0, ds0, p0, q0, hargs, rfl, rfl, h0, r0⟩ := trodAll_cons hA
  obtain ⟨v1, vs1, d1, ds1, p1, q1, rfl, rfl, rfl, h1, r1⟩ := trodAll_cons r0
  obtain ⟨rfl, rfl, rfl⟩ := trodAll_nil r1
  obtain rfl : args = #[v0, v1] := by cases args; simp_all
  obtain ⟨q, rfl, rfl, rfl, w1⟩ := open_int Tryd.underlying3 (hval 1 3 v1 rfl rfl) h1
  have k0 := h0
  have lt0 : ∀ x ∈ p0, x.block < W.heap.size := fun x hx => by have := hW'.lt x (by simp [hx]); simpa using this
  obtain ⟨c0, c1, y0, y1, m, rfl, rfl, rfl, hy0, hy1⟩ := Joins.open_agg2 Tryd.underlying24 (by kernel_rfl) cells24 (hval 0 24 v0 rfl rfl) h0
  obtain ⟨a, rfl, rfl⟩ := int_of_trod Tryd.underlying22 hy0
  obtain ⟨b, rfl, rfl⟩ := int_of_trod Tryd.underlying22 hy1
  obtain ⟨g, t, cs, fuel, d, p', rfl, hg, ht, hvar, hd, rfl⟩ := trodVars_one hV
  obtain rfl := Option.some.inj (gTab.symm.trans hg)
  obtain rfl := Option.some.inj (gTabType.symm.trans ht)
  obtain rfl : cs = cells8 := Option.some.inj (hvar.symm.trans (cells_of_laid hL))
  obtain ⟨rfl, rfl⟩ := DataW.Trod.unique (v := .agg cells8) ⟨fuel, hd⟩ ⟨4, reads_table enc W _⟩
  clear hA0 hV0 hval0
  refine (walk a b q W (forms_of_laid hL)).mono fun e W' ⟨he, bel⟩ => ?_
  subst he
  have hv' : W'.var? Tryd.prog "loop.example/g00053/impl.floatForms" = some cells8 := var?_below bel gTab (forms_of_laid hL).pos hvar
  have arg0 := Below.trod laidOut (by kernel_rfl) (of_decide_eq_true (by kernel_rfl)) k0 bel lt0
  exact ⟨_, rfl, _, _, _, [], _, MemPlace.row ⟨0, 0, none⟩ cells8.size ++ [] ++ [], hW', trodAll_cons_mk (shut_bool Tryd.underlying4 _) trodAll_mk0, trodAll_cons_mk arg0 (trodAll_cons_mk (shut_int Tryd.underlying3 w1) trodAll_mk0), ⟨0, 76, cells8, 4, [], [], hg, ht, hv', reads_table enc W' _, rfl, rfl⟩, bel.frame _, fun h => by cases h⟩
theorem said : Rows.FnExactTurnCwSaid :=
  OpenClaim.holds_of_wide 5 Tryd.f5 rfl rfl rfl rfl rfl rfl rfl ⟨rfl, rfl, rfl, rfl, rfl⟩ rfl rfl rfl rfl rfl (by kernel_rfl) Tryd.func5 (by kernel_rfl)
    (of_decide_eq_true (by kernel_rfl)) (by unfold Func.isWrapper; first | (rw [if_pos (by decide +kernel)]; kernel_rfl) | (rw [if_neg (by decide +kernel)]; exact ⟨rfl, rfl⟩))
    (fun os started H enc _ => lifted os started H enc)
theorem plain (f : FuncId) (fn : Func) (hf : Tryd.pinned.checked.prog.funcNamed "loop.example/g00053/laws.FnExactTurnCw" = some f) (hfn : Tryd.pinned.checked.prog.funcs[f]? = some fn) :
    false = Tryd.pinned.checked.prog.looks [] ∧ ∀ (j : Nat) t, fn.params[j]? = some t → Tryd.pinned.checked.prog.wantsStandIn t = false := by
  obtain rfl : f = 5 := Option.some.inj ((show Tryd.prog.funcNamed "loop.example/g00053/laws.FnExactTurnCw" = some 5 by kernel_rfl).symm.trans hf) |>.symm
  obtain rfl : fn = Tryd.f5 := (Option.some.inj (Tryd.func5.symm.trans hfn)).symm
  refine ⟨by kernel_rfl, fun j t ht => ?_⟩
  rw [Tryd.params5] at ht
  rcases (by simpa using Array.mem_of_getElem? ht : t = 24 ∨ t = 3) with rfl | rfl
  · exact (show Tryd.prog.wantsStandIn 24 = false by kernel_rfl)
  · exact (show Tryd.prog.wantsStandIn 3 = false by kernel_rfl)
theorem card : Rows.FnExactTurnCwCardSaid :=
  Claim7.holds_tied_plain_at .later [] _ _ _ _ said (fun _ h => by cases h) (by kernel_rfl) (fun _ h => by cases h) fnExactTurnCw_row_tie rfl ⟨rfl, rfl⟩ (by kernel_rfl) rfl plain (by kernel_rfl)
end Go.Proofs.YtlcfpcapefeajaaDoor.fnExactTurnCw
namespace Go.Proofs.YtlcfpcapefeajaaDoor
theorem turn_cw_holds : Rows.FnExactTurnCwCardSaid := fnExactTurnCw.card
#print axioms turn_cw_holds
end Go.Proofs.YtlcfpcapefeajaaDoor
