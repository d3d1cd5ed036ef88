/- Proved: for every instruction the law FnExactReadsOf returns true (ReadsOf answers as its model, and its answer owns its memory) and the argument reads afterwards as before; condition (a tied card): the table of calls starts as the text of the program lays it. -/
import Derived.Test.YtbnohbckoljhmaaDoorRows
import Derived.Test.YtbnohbckoljhmaaDoorRis
import Derived.Test.YtbnohbckoljhmaaDoorTie
import Derived.Test.YtbnohbckoljhmaaDoorCards
import Derived.OpenShut
import Derived.ChangeMaps5
import Derived.SevenTiedAt
namespace Go.Proofs.YtbnohbckoljhmaaDoor.fnExactReadsOf
open Go.ChangeShapes Go.WideShapes Go.ChangeAt Go.RowKit
set_option linter.unusedVariables false
theorem laidOut : laidOutB Tryd.prog = true := by kernel_rfl
theorem word_of {x : Int} (h : (Lit.int .u32 x).wf = true) : 0 ≤ x ∧ x < 4294967296 := by
  simp [Lit.wf] at h
  exact ⟨h.1, Int.lt_add_one_of_le h.2⟩
set_option maxHeartbeats 4000000 in
set_option maxRecDepth 100000 in
theorem walk (w : World) (G : Forms w) (o d a b c x : Int) (x0 : 0 ≤ x) (x1 : x < 4294967296) :
    Calls Tryd.prog 3 #[.agg #[.int .i64 o, .int .i64 d, .int .i64 a, .int .i64 b, .int .i64 c, .int .u32 x]] w fun e w' => e = .returned (.bool true) ∧ Below w.heap.size w w' := by
  have BW : Hid (Below w.heap.size w (w.alloc (.cells #[.int .i64 o, .int .i64 d, .int .i64 a, .int .i64 b, .int .i64 c, .int .u32 x] 24))) := (Below.refl _ _).alloc (Nat.le_refl _) _
  have H6 : Hid (∀ v, Calls Tryd.prog 6 #[.agg #[.int .i64 o, .int .i64 d, .int .i64 a, .int .i64 b, .int .i64 c, .int .u32 x]] v fun r w' => r = .returned (.agg #[.int .i64 o, .int .i64 d, .int .i64 a, .int .i64 b, .int .i64 c, .int .u32 x]) ∧ Below v.heap.size v w') := fun v => toOneI o d a b c x v
  have H5 : Hid (∀ v, Calls Tryd.prog 5 #[.agg #[.int .i64 o, .int .i64 d, .int .i64 a, .int .i64 b, .int .i64 c, .int .u32 x]] v fun e w' => ∃ u, e = .returned u ∧ Ri v.heap.size w' u (rdL o d a b c x) ∧ Below v.heap.size v w') := fun v => reads15 o d a b c x v x0 x1
  have H7 : Hid (∀ v, Forms v → Calls Tryd.prog 7 #[.agg #[.int .i64 o, .int .i64 d, .int .i64 a, .int .i64 b, .int .i64 c, .int .u32 x]] v fun e w' => ∃ u, e = .returned u ∧ IOwn v.heap.size w' u (rdL o d a b c x) ∧ Below v.heap.size v w') := fun v g => reads7 o d a b c x v g x0 x1
  have HF : Hid (∀ w', Below w.heap.size w w' → Forms w') := fun w' b => G.below b
  have HL3 : Hid ((rdL o d a b c x).length ≤ 1048576) := by
    show _ ≤ _
    unfold rdL
    split
    · have h1 := srt_len (opsL o a b c x); have h2 := opsL_len o a b c x; omega
    · simp
  have d0 : (w.alloc (.cells #[.int .i64 o, .int .i64 d, .int .i64 a, .int .i64 b, .int .i64 c, .int .u32 x] 24)).cell? ⟨w.heap.size, 0, none⟩ = some (.int .i64 o) := by simp
  have d1 : (w.alloc (.cells #[.int .i64 o, .int .i64 d, .int .i64 a, .int .i64 b, .int .i64 c, .int .u32 x] 24)).cell? ⟨w.heap.size, 1, none⟩ = some (.int .i64 d) := by simp
  have d2 : (w.alloc (.cells #[.int .i64 o, .int .i64 d, .int .i64 a, .int .i64 b, .int .i64 c, .int .u32 x] 24)).cell? ⟨w.heap.size, 2, none⟩ = some (.int .i64 a) := by simp
  have d3 : (w.alloc (.cells #[.int .i64 o, .int .i64 d, .int .i64 a, .int .i64 b, .int .i64 c, .int .u32 x] 24)).cell? ⟨w.heap.size, 3, none⟩ = some (.int .i64 b) := by simp
  have d4 : (w.alloc (.cells #[.int .i64 o, .int .i64 d, .int .i64 a, .int .i64 b, .int .i64 c, .int .u32 x] 24)).cell? ⟨w.heap.size, 4, none⟩ = some (.int .i64 c) := by simp
  have d5 : (w.alloc (.cells #[.int .i64 o, .int .i64 d, .int .i64 a, .int .i64 b, .int .i64 c, .int .u32 x] 24)).cell? ⟨w.heap.size, 5, none⟩ = some (.int .u32 x) := by simp
  clear x0 x1 G
  generalize rdL o d a b c x = L at H5 H7 HL3
  go_enter Tryd.func3, Tryd.ntmps3
  go_wp2_with (first | (go_at_call 6; refine (H6.out (w.alloc (.cells #[.int .i64 o, .int .i64 d, .int .i64 a, .int .i64 b, .int .i64 c, .int .u32 x] 24))).mono ?_; rintro e w1 ⟨rfl, B1⟩; (have e0 := cell_next d0 B1); (have e1 := cell_next d1 B1); (have e2 := cell_next d2 B1); (have e3 := cell_next d3 B1); (have e4 := cell_next d4 B1); (have e5 := cell_next d5 B1); skip) | (go_at_call 5; refine (H5.out w1).mono ?_; rintro e w2 ⟨u0, rfl, R0, B2⟩; (have f0 := cell_next e0 B2); (have f1 := cell_next e1 B2); (have f2 := cell_next e2 B2); (have f3 := cell_next e3 B2); (have f4 := cell_next e4 B2); (have f5 := cell_next e5 B2); skip))
  have B02 : Hid (Below w.heap.size w w2) := (BW.out.trans (B1.mono BW.out.size)).trans (B2.mono (by have := BW.out.size; have := B1.size; omega))
  have U0 : Hid (NRow w2 w1.heap.size w2.heap.size u0 (fun i => L.getD i 0) L.length) := nrow_of R0
  clear R0 B2 B1 d0 d1 d2 d3 d4 d5 e0 e1 e2 e3 e4 e5
  go_wp2_with (first | (go_at_call 6; refine (H6.out w2).mono ?_; rintro e w3 ⟨rfl, B3⟩; (have g0 := cell_next f0 B3); (have g1 := cell_next f1 B3); (have g2 := cell_next f2 B3); (have g3 := cell_next f3 B3); (have g4 := cell_next f4 B3); (have g5 := cell_next f5 B3); skip) | (go_at_call 7; refine (H7.out w3 (HF.out _ (B02.out.trans (B3.mono B02.out.size)))).mono ?_; rintro e w4 ⟨u1, rfl, R1, B4⟩; (have h0 := cell_next g0 B4); (have h1 := cell_next g1 B4); (have h2 := cell_next g2 B4); (have h3 := cell_next g3 B4); (have h4 := cell_next g4 B4); (have h5 := cell_next g5 B4); skip))
  have B24 : Hid (Below w2.heap.size w2 w4) := B3.trans (B4.mono B3.size)
  have U0' : Hid (NRow w4 w1.heap.size w2.heap.size u0 (fun i => L.getD i 0) L.length) := U0.out.next B24.out
  have U1 : Hid (NRow w4 w3.heap.size w4.heap.size u1 (fun i => L.getD i 0) L.length) := nrow_own R1
  have H32 : Hid (w2.heap.size ≤ w3.heap.size ∧ w.heap.size < w2.heap.size) := ⟨B3.size, World.block_lt_of_cell? _ ⟨w.heap.size, 0, none⟩ f0⟩
  clear R1 B4 B3 U0 f0 f1 f2 f3 f4 f5 g0 g1 g2 g3 g4 g5
  go_wp2_with (go_at_call 8; refine (eqNR U1.out U0'.out HL3.out).mono ?_; rintro e w5 ⟨rfl, B5⟩; (have k0 := cell_next h0 B5); (have k1 := cell_next h1 B5); (have k2 := cell_next h2 B5); (have k3 := cell_next h3 B5); (have k4 := cell_next h4 B5); (have k5 := cell_next h5 B5); skip)
  have U0 : Hid (NRow w5 w1.heap.size w2.heap.size u0 (fun i => L.getD i 0) L.length) := U0'.out.next B5
  have U1' : Hid (NRow w5 w3.heap.size w4.heap.size u1 (fun i => L.getD i 0) L.length) := U1.out.next B5
  have B05 : Hid (Below w.heap.size w w5) := (B02.out.trans (B24.out.mono B02.out.size)).trans (B5.mono (by have := B02.out.size; have := B24.out.size; omega))
  have HSZ : Hid (w2.heap.size ≤ w5.heap.size) := Nat.le_trans B24.out.size B5.size
  have h9 := markNR U1'.out HL3.out
  have H10 : Hid (∀ v, NRow v w3.heap.size w4.heap.size u1 (fun i => ((1 + i : Nat) : Int)) L.length → Calls Tryd.prog 10 #[u1, .int .i64 1] v fun r w' => r = .returned (.int .i64 ((1 + L.length : Nat) : Int)) ∧ w' = v) := fun v U => heldNR U HL3.out
  have hs0 : ¬ ((1 + L.length : Nat) : Int) < 0 := by omega
  generalize ((1 + L.length : Nat) : Int) = s at h9 H10 hs0
  clear U1 U0' B5 h0 h1 h2 h3 h4 h5 B24
  go_wp2_with (go_at_call 9; refine h9.mono ?_; rintro e w6 ⟨rfl, M1, p, hp, K6⟩)
  have U0' : Hid (NRow w6 w1.heap.size w2.heap.size u0 (fun i => L.getD i 0) L.length) := U0.out.but K6 (by have := H32.out; omega)
  have K6b : Below w2.heap.size w5 w6 := K6.below (by have := H32.out; omega) HSZ.out
  have l0 : w6.cell? ⟨w.heap.size, 0, none⟩ = some (.int .i64 o) := (K6b.cell (p := ⟨w.heap.size, 0, none⟩) H32.out.2).trans k0
  have l1 : w6.cell? ⟨w.heap.size, 1, none⟩ = some (.int .i64 d) := (K6b.cell (p := ⟨w.heap.size, 1, none⟩) H32.out.2).trans k1
  have l2 : w6.cell? ⟨w.heap.size, 2, none⟩ = some (.int .i64 a) := (K6b.cell (p := ⟨w.heap.size, 2, none⟩) H32.out.2).trans k2
  have l3 : w6.cell? ⟨w.heap.size, 3, none⟩ = some (.int .i64 b) := (K6b.cell (p := ⟨w.heap.size, 3, none⟩) H32.out.2).trans k3
  have l4 : w6.cell? ⟨w.heap.size, 4, none⟩ = some (.int .i64 c) := (K6b.cell (p := ⟨w.heap.size, 4, none⟩) H32.out.2).trans k4
  have l5 : w6.cell? ⟨w.heap.size, 5, none⟩ = some (.int .u32 x) := (K6b.cell (p := ⟨w.heap.size, 5, none⟩) H32.out.2).trans k5
  have B06 : Hid (Below w.heap.size w w6) := B05.out.trans (K6b.mono (by have := H32.out; omega))
  clear K6 K6b k0 k1 k2 k3 k4 k5 h9 U0 U1'
  go_wp2_with (first | (go_at_call 10; refine (H10.out w6 M1).mono ?_; rintro e w7 ⟨rfl, hw⟩; subst w7))
  go_wp2_with (first | (go_at_call 6; refine (H6.out w6).mono ?_; rintro e w8 ⟨rfl, B8⟩) | (go_at_call 7; refine (H7.out w8 (HF.out _ (B06.out.trans (B8.mono B06.out.size)))).mono ?_; rintro e w9 ⟨u2, rfl, R2, B9⟩))
  have B69 : Hid (Below w6.heap.size w6 w9) := B8.trans (B9.mono B8.size)
  have U0 : Hid (NRow w9 w1.heap.size w2.heap.size u0 (fun i => L.getD i 0) L.length) := U0'.out.next B69.out
  have M2 : Hid (NRow w9 w3.heap.size w4.heap.size u1 (fun i => ((1 + i : Nat) : Int)) L.length) := M1.next B69.out
  have U2 : Hid (NRow w9 w8.heap.size w9.heap.size u2 (fun i => L.getD i 0) L.length) := nrow_own R2
  clear B8 B9 R2 M1 l0 l1 l2 l3 l4 l5
  go_wp2_with (first | (go_at_call 8; refine (eqNR U2.out U0.out HL3.out).mono ?_; rintro e w10 ⟨rfl, B10⟩) | (go_at_call 10; refine (H10.out w10 (M2.out.next B10)).mono ?_; rintro e w11 ⟨rfl, hw⟩; subst w11))
  go_ret
  exact ⟨rfl, (B06.out.trans (B69.out.mono B06.out.size)).trans (B10.mono (by have := B06.out.size; have := B69.out.size; omega))⟩

theorem laid_met (os : Os) : laidMet Tryd.prog Rows.fnExactReadsOfRow.laid ((laidWorld os).forCall (fun _ _ => 0) ⟨#[], #[.agg #[.int .i64 0, .int .i64 0, .int .i64 0, .int .i64 0, .int .i64 0, .int .u32 0]], []⟩).memory :=
  laidMet_of_run' 8 (by kernel_rfl) (by kernel_rfl)
set_option maxRecDepth 100000 in
theorem lifted (os : Os) (started : os.Started) (H : Type) (enc : TypeId × Value → H) :
    ReturnsInHanded {} Tryd.checked os 3 .any (fun w args => (Rows.fnExactReadsOfSpec.pre enc Tryd.prog Tryd.f3 [] false w args ∧ laidMetH Tryd.prog Rows.fnExactReadsOfRow.laid w) ∧ sizedMet enc Tryd.prog Tryd.f3 (OpenSpec.ofChange Rows.fnExactReadsOfSpec) false w args)
      (Rows.fnExactReadsOfSpec.post enc Tryd.prog Tryd.f3 false true false false) := by
  refine returnsInHanded_of_change_and (C := Tryd.checked) (X := fun w _ => laidMetH Tryd.prog Rows.fnExactReadsOfRow.laid w) (fun _ _ _ hh h => h.of_heap hh) own started (by kernel_rfl) Tryd.func3
    (ChangeSpec.witness_at (enc := enc) (C := Tryd.checked) (os := os) (X := fun w _ => laidMetH Tryd.prog Rows.fnExactReadsOfRow.laid w) false (laidWorld os) #[.agg #[.int .i64 0, .int .i64 0, .int .i64 0, .int .i64 0, .int .i64 0, .int .u32 0]] 8 rfl (by kernel_rfl) (by kernel_rfl) (by kernel_rfl) (by kernel_rfl) (by kernel_rfl) (laid_met os)) ?_
  intro W base args ds gs before hval0 hW _ _ hL _
  have hval : ∀ (j : Nat) t v, Tryd.f3.params[j]? = some t → args[j]? = some v → Value.okWide Tryd.prog W .any base t v := hval0
  have hW' := hW
  obtain ⟨p, q, hA0, hV0, rfl, hfz, hnd⟩ := hW
  have hA : DataW.TrodAll enc Tryd.prog W 0 (fun _ => true) true Tryd.f3.params.toList args.toList ds p := hA0
  have hV : DataW.TrodVars enc Tryd.prog W (fun _ => true) ["loop.example/g00053/impl.callForms"] gs q := hV0
  rw [Tryd.params3] at hA hval
  obtain ⟨v0, vs0, d0, ds0, p0, q0, hargs, rfl, rfl, h0, r0⟩ := trodAll_cons hA
  obtain ⟨rfl, rfl, rfl⟩ := trodAll_nil r0
  obtain rfl : args = #[v0] := by cases args; simp_all
  have k0 := h0
  have lt0 : ∀ x ∈ p0, x.block < W.heap.size := fun x hx => by have := hW'.lt x (by simp [hx]); simpa using this
  obtain ⟨o, d, a, b, c, x, rfl, x0⟩ := viewS Tryd.underlying24 (by kernel_rfl) rfl rfl rfl rfl rfl rfl (by kernel_rfl) (by kernel_rfl) (by kernel_rfl) (by kernel_rfl) (by kernel_rfl) (by kernel_rfl) Tryd.underlying3 Tryd.underlying3 Tryd.underlying3 Tryd.underlying3 Tryd.underlying3 Tryd.underlying22 (hval 0 24 v0 rfl rfl) h0
  obtain ⟨g, t, cs, fuel, d, p', rfl, hg, ht, hvar, hd, rfl⟩ := trodVars_one hV
  obtain rfl := Option.some.inj (gTab.symm.trans hg)
  obtain rfl := Option.some.inj (gTabType.symm.trans ht)
  obtain rfl : cs = cellsT := Option.some.inj (hvar.symm.trans (cells_of_laid hL))
  obtain ⟨rfl, rfl⟩ := DataW.Trod.unique (v := .agg cellsT) ⟨fuel, hd⟩ ⟨4, reads_table enc W _⟩
  clear hA0 hV0 hval0
  refine (walk W (forms_of_laid hL) o d a b c x (word_of x0).1 (word_of x0).2).mono fun e W' ⟨he, bel⟩ => ?_
  subst he
  have hv' : W'.var? Tryd.prog "loop.example/g00053/impl.callForms" = some cellsT := var?_below bel gTab (forms_of_laid hL).pos hvar
  have arg0 := Below.trod laidOut (by kernel_rfl) (of_decide_eq_true (by kernel_rfl)) k0 bel lt0
  exact ⟨_, rfl, _, _, _, [], _, MemPlace.row ⟨0, 0, none⟩ cellsT.size ++ [] ++ [], hW', trodAll_cons_mk (shut_bool Tryd.underlying4 _) trodAll_mk0, (trodAll_cons_mk arg0 trodAll_mk0), ⟨0, 68, cellsT, 4, [], [], hg, ht, hv', reads_table enc W' _, rfl, rfl⟩, bel.frame _, fun h => by cases h⟩
theorem said : Rows.FnExactReadsOfSaid :=
  OpenClaim.holds_of_wide 3 Tryd.f3 rfl rfl rfl rfl rfl rfl rfl ⟨rfl, rfl, rfl, rfl, rfl⟩ rfl rfl rfl rfl rfl (by kernel_rfl) Tryd.func3 (by kernel_rfl)
    (of_decide_eq_true (by kernel_rfl)) (by unfold Func.isWrapper; first | (rw [if_pos (by decide +kernel)]; kernel_rfl) | (rw [if_neg (by decide +kernel)]; exact ⟨rfl, rfl⟩))
    (fun os started H enc _ => lifted os started H enc)
theorem plain (f : FuncId) (fn : Func) (hf : Tryd.pinned.checked.prog.funcNamed "loop.example/g00053/laws.FnExactReadsOf" = some f) (hfn : Tryd.pinned.checked.prog.funcs[f]? = some fn) :
    false = Tryd.pinned.checked.prog.looks [] ∧ ∀ (j : Nat) t, fn.params[j]? = some t → Tryd.pinned.checked.prog.wantsStandIn t = false := by
  obtain rfl : f = 3 := Option.some.inj ((show Tryd.prog.funcNamed "loop.example/g00053/laws.FnExactReadsOf" = some 3 by kernel_rfl).symm.trans hf) |>.symm
  obtain rfl : fn = Tryd.f3 := (Option.some.inj (Tryd.func3.symm.trans hfn)).symm
  refine ⟨by kernel_rfl, fun j t ht => ?_⟩
  rw [Tryd.params3] at ht
  obtain rfl : t = 24 := by simpa using Array.mem_of_getElem? ht
  exact (show Tryd.prog.wantsStandIn 24 = false by kernel_rfl)
theorem card : Rows.FnExactReadsOfCardSaid :=
  Claim7.holds_tied_plain_at .later [] _ _ _ _ said (fun _ h => by cases h) (by kernel_rfl) (fun _ h => by cases h) fnExactReadsOf_row_tie rfl ⟨rfl, rfl⟩ (by kernel_rfl) rfl plain (by kernel_rfl)
end Go.Proofs.YtbnohbckoljhmaaDoor.fnExactReadsOf
namespace Go.Proofs.YtbnohbckoljhmaaDoor
theorem readsof_holds : Rows.FnExactReadsOfCardSaid := fnExactReadsOf.card
#print axioms readsof_holds
end Go.Proofs.YtbnohbckoljhmaaDoor
