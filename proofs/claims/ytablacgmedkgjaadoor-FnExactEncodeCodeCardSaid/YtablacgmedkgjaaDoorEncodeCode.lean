/- Proved: for every list of instructions the law FnExactEncodeCode returns true: EncodeCode answers as its model, every byte and whether there are any; it writes into no argument, and what it answers owns its memory (it may be written over, and a second call answers as the first); the argument reads afterwards as before; condition (a tied card): the table of calls starts as the text of the program lays it. -/
import Derived.Test.YtablacgmedkgjaaDoorRows
import Derived.Test.YtablacgmedkgjaaDoorEni
import Derived.Test.YtablacgmedkgjaaDoorRwm
import Derived.Test.YtablacgmedkgjaaDoorAns
import Derived.Test.YtablacgmedkgjaaDoorTie
import Derived.Test.YtablacgmedkgjaaDoorCards
import Derived.OpenShut
import Derived.ChangeMaps5
import Derived.SevenTiedAt
namespace Go.Proofs.YtablacgmedkgjaaDoor.fnExactEncodeCode
open Go.ChangeShapes Go.WideShapes Go.ChangeAt Go.RowKit
set_option linter.unusedVariables false
theorem laidOut : laidOutB Tryd.prog = true := by kernel_rfl
theorem word_of {x : Int} (h : (Lit.int .u32 x).wf = true) : 0 ≤ x ∧ x < 4294967296 := by
  simp [Lit.wf] at h
  exact ⟨h.1, Int.lt_add_one_of_le h.2⟩
set_option maxRecDepth 100000 in
theorem sz8 (a : Option Addr) (n cap : Nat) (w : World) (hn : n ≤ 9223372036854775807) : Calls Tryd.prog 9 #[.slice a n cap, .int .i64 1048576] w fun r w' => (∃ z : Int, r = .returned (.int .i64 z) ∧ (z < 0 ∨ 0 ≤ z ∧ n ≤ 1048576)) ∧ w' = w := by
  by_cases big : 1048576 < n
  · have h : (1048576 : Int) - (n : Int) < 0 := by omega
    go_enter Tryd.func9, Tryd.ntmps9
    go_wp2
    go_ret
    exact ⟨⟨-1, rfl, Or.inl (by decide)⟩, rfl⟩
  · have h : 0 ≤ (1048576 : Int) - (n : Int) := by omega
    go_enter Tryd.func9, Tryd.ntmps9
    go_wp2
    go_ret
    exact ⟨⟨_, rfl, Or.inr ⟨h, by omega⟩⟩, rfl⟩
theorem yrow_of {B : Nat} {w : World} {v : Value} {L : List Int} (h : Rb B w v L) : YRow w v L.length (fun i => L.getD i 0) := by
  by_cases e : L.length = 0
  · rcases h.1.2 with ⟨rfl, _⟩ | ⟨g, cap, cur, rfl, _⟩
    · exact Or.inl ⟨e, rfl⟩
    · exact Or.inr ⟨g, cap, rfl, own_owned h.1 _ (fun i hi => by omega)⟩
  · obtain ⟨g, cap, rfl, _⟩ := World.ownsRow.form h.1 (by omega)
    exact Or.inr ⟨g, cap, rfl, own_owned h.1 _ (fun i hi => by unfold bl; rw [List.getElem?_map]; show _ = some (Value.int .u8 (L.getD i 0)); rw [List.getD_eq_getElem?_getD, List.getElem?_eq_getElem hi]; rfl)⟩
theorem encB_len {O D A B C X : Nat → Int} {n : Nat} (hn : n ≤ 600) : (encB O D A B C X n).length ≤ 20000 := by
  have := codeB_len O D A B C X n n
  unfold encB
  rw [List.length_append, lows_len]
  omega
def LL (O D A B C X : Nat → Int) (n : Nat) : List Int := if goodC O D A B C X n then encB O D A B C X n else []
theorem LL_len (O D A B C X : Nat → Int) (n : Nat) : (LL O D A B C X n).length ≤ 20000 := by
  unfold LL
  cases h : goodC O D A B C X n
  · simp
  · simp only [if_true]
    exact encB_len (goodC_bds h).1
theorem says21 (n a cap : Nat) (O D A B C X : Nat → Int) (w : World) (R : RowI w a n O D A B C X) (hX : Wds X n) (hn : n ≤ 1048576) : Calls Tryd.prog 22 #[.slice (some ⟨a, 0, none⟩) n cap] w (SaysP w (LL O D A B C X n).length (fun i => (LL O D A B C X n).getD i 0) (goodC O D A B C X n)) := by
  cases h : goodC O D A B C X n
  · have e : LL O D A B C X n = [] := by unfold LL; rw [h]; rfl
    rw [e]
    refine (enc21_no n a cap O D A B C X w R hX hn h).mono ?_
    rintro e w' ⟨rfl, b⟩
    exact saysP_no w w' _ b
  · have e : LL O D A B C X n = encB O D A B C X n := by unfold LL; rw [h]; rfl
    rw [e]
    obtain ⟨h1, _, h2⟩ := goodC_bds h
    refine (enc21_yes n a cap O D A B C X w R hX h1 h h2).mono ?_
    rintro e w' ⟨v, rfl, r, b⟩
    exact ⟨v, rfl, yrow_of r, fun g hg => (r.lt g hg).1, b⟩
theorem says22 (n a cap : Nat) (O D A B C X : Nat → Int) (w : World) (G : Forms w) (R : RowI w a n O D A B C X) (hX : Wds X n) (hn : n ≤ 1048576) : Calls Tryd.prog 23 #[.slice (some ⟨a, 0, none⟩) n cap] w (SaysP w (LL O D A B C X n).length (fun i => (LL O D A B C X n).getD i 0) (goodC O D A B C X n)) := by
  cases h : goodC O D A B C X n
  · have e : LL O D A B C X n = [] := by unfold LL; rw [h]; rfl
    rw [e]
    refine (enc22_no n a cap O D A B C X w G R hX hn h).mono ?_
    rintro e w' ⟨rfl, b⟩
    exact saysP_no w w' _ b
  · have e : LL O D A B C X n = encB O D A B C X n := by unfold LL; rw [h]; rfl
    rw [e]
    obtain ⟨h1, _, h2⟩ := goodC_bds h
    refine (enc22_yes n a cap O D A B C X w G R hX h1 h h2).mono ?_
    rintro e w' ⟨v, rfl, r, b⟩
    exact ⟨v, rfl, yrow_of r, fun g hg => (r.lt g hg).1, b⟩
set_option maxHeartbeats 4000000 in
set_option maxRecDepth 100000 in
theorem walk (w : World) (G : Forms w) (s0 : Option Addr) (n0 c0 : Nat) (O D A B C X : Nat → Int) (m0 : n0 ≤ 9223372036854775807) (A0 : ArgI w s0 n0 O D A B C X) (x0 : ∀ i, 0 ≤ X i ∧ X i < 4294967296) :
    Calls Tryd.prog 6 #[.slice s0 n0 c0] w fun e w' => e = .returned (.bool true) ∧ Below w.heap.size w w' := by
  have HS : Hid (Calls Tryd.prog 9 #[.slice s0 n0 c0, .int .i64 1048576] w fun r w' => (∃ z : Int, r = .returned (.int .i64 z) ∧ (z < 0 ∨ 0 ≤ z ∧ n0 ≤ 1048576)) ∧ w' = w) := sz8 s0 n0 c0 w m0
  have HT : Hid (∀ w', Below w.heap.size w w' → n0 ≤ 1048576 → Calls Tryd.prog 11 #[.slice s0 n0 c0] w' fun r w'' => r = .returned (.slice (some ⟨w'.heap.size, 0, none⟩) n0 n0) ∧ RowI w'' w'.heap.size n0 O D A B C X ∧ Below w'.heap.size w' w'') := fun w' b hn => argToI (A0.next b) c0 hn
  have HF : Hid (∀ w', Below w.heap.size w w' → Forms w') := fun w' b => G.below b
  have HX : Wds X n0 := fun i _ => x0 i
  clear A0 x0 G
  go_enter Tryd.func6, Tryd.ntmps6
  go_wp2_with (go_at_call 9; refine HS.out.mono ?_)
  rintro e w1 ⟨⟨z, rfl, hz⟩, hw⟩
  subst w1
  by_cases z0 : z < 0
  · go_wp2
    go_ret
    exact ⟨rfl, Below.refl _ _⟩
  obtain ⟨_, hn⟩ := hz.resolve_left z0
  clear hz
  have bN := LL_len O D A B C X n0
  obtain ⟨NN, hNN⟩ : ∃ x, (LL O D A B C X n0).length = x := ⟨_, rfl⟩
  obtain ⟨FF, hFF⟩ : ∃ x : Nat → Int, (fun i => (LL O D A B C X n0).getD i 0) = x := ⟨_, rfl⟩
  obtain ⟨GG, hGG⟩ : ∃ x : Bool, goodC O D A B C X n0 = x := ⟨_, rfl⟩
  have H21 : Hid (∀ a w', RowI w' a n0 O D A B C X → Calls Tryd.prog 22 #[.slice (some ⟨a, 0, none⟩) n0 n0] w' (SaysP w' NN FF GG)) := fun a w' R => by
    have h := says21 n0 a n0 O D A B C X w' R HX hn
    rw [hNN, hFF, hGG] at h
    exact h
  have H22 : Hid (∀ a w', Forms w' → RowI w' a n0 O D A B C X → Calls Tryd.prog 23 #[.slice (some ⟨a, 0, none⟩) n0 n0] w' (SaysP w' NN FF GG)) := fun a w' g R => by
    have h := says22 n0 a n0 O D A B C X w' g R HX hn
    rw [hNN, hFF, hGG] at h
    exact h
  rw [hNN] at bN
  have HbN : Hid (NN ≤ 1048576) := show NN ≤ 1048576 by omega
  obtain ⟨CN, hCN⟩ : ∃ N : Int, ((1 + NN : Nat) : Int) = N := ⟨_, rfl⟩
  have nn : ¬ CN < 0 := by omega
  have HCN : Hid (((1 + NN : Nat) : Int) = CN) := hCN
  obtain ⟨M, hM⟩ : ∃ N : Int, ((1 + 6 * n0 : Nat) : Int) = N := ⟨_, rfl⟩
  have mm : ¬ M < 0 := by omega
  have HMM : Hid (((1 + 6 * n0 : Nat) : Int) = M) := hM
  clear hNN hFF hGG hCN hM bN HX
  go_wp2_with (first | (go_at_call 11; (with_reducible show Calls Tryd.prog 11 _ w _); refine (HT.out w (Below.refl _ _) hn).mono ?_; rintro e w2 ⟨rfl, X2, B2⟩) | (go_at_call 22; refine (H21.out w.heap.size w2 X2).mono ?_; rintro e w3 ⟨u, rfl, U3, gU, B3⟩; (obtain ⟨su, lu, cu, rfl⟩ := U3.is)))
  have B13 : Below w.heap.size w w3 := B2.trans (B3.mono B2.size)
  have uL := U3.lt
  go_wp2_with (first | (go_at_call 11; (with_reducible show Calls Tryd.prog 11 _ w3 _); refine (HT.out w3 B13 hn).mono ?_; rintro e w4 ⟨rfl, X4, B4⟩; (have B14 : Below w.heap.size w w4 := B13.trans (B4.mono B13.size))) | (go_at_call 23; (with_reducible show Calls Tryd.prog 23 _ w4 _); refine (H22.out w3.heap.size w4 (HF.out _ B14) X4).mono ?_; rintro e w5 ⟨v, rfl, V5, gV, B5⟩; (obtain ⟨sv, lv, cv, rfl⟩ := V5.is)) | (go_at_call 24; (with_reducible show Calls Tryd.prog 24 _ w5 _); refine (eqYV V5 ((U3.next B4).next B5) HbN.out).mono ?_; rintro e w6 ⟨rfl, B6⟩))
  have B15 : Below w.heap.size w w5 := B14.trans (B5.mono B14.size)
  have z34 : w3.heap.size < w4.heap.size := X4.hi
  have HT6 : Hid (TwoP w NN FF FF (.slice su lu cu) (.slice sv lv cv) w3.heap.size w4.heap.size w6) := ⟨((U3.next B4).next B5).next B6, V5.next B6, uL, gV, B15.trans (B6.mono B15.size), B13.size, by omega, by have := B5.size; have := B6.size; omega⟩
  have HX6 : Hid (RowI w6 w3.heap.size n0 O D A B C X) := (X4.next B5).next B6
  have HB6 : Hid (Below w.heap.size w w6) := HT6.out.B
  clear X2 X4 U3 V5 B13 B14 B15 B2 B3 B4 B5 B6 gU gV uL
  cases GG
  all_goals
    go_wp2_with (first | (go_at_call 11; (with_reducible show Calls Tryd.prog 11 _ w6 _); refine (HT.out w6 HB6.out hn).mono ?_; rintro e w9 ⟨rfl, X9, B9⟩) | (go_at_call 13; refine (eqRowI (HX6.out.next B9) X9 n0 n0 hn).mono ?_; rintro e w10 ⟨rfl, B10⟩; (have HT10 : Hid (TwoP w NN FF _ _ _ _ _ w10) := (HT6.out.next B9).next B10); (have HX10 : Hid (RowI w10 w3.heap.size n0 O D A B C X) := (HX6.out.next B9).next B10)) | (go_at_call 25; refine (markI HX10.out n0 hn).mono ?_; rw [HMM.out]; rintro e w13 ⟨rfl, R13, O13⟩; (have HT13 : Hid (TwoP w NN FF _ _ _ _ _ w13) := HT10.out.only O13 (Nat.le_refl _) z34)) | (go_at_call 24; (with_reducible show Calls Tryd.prog 24 _ w13 _); refine (eqYV HT13.out.V HT13.out.U HbN.out).mono ?_; rintro e w15 ⟨rfl, B15⟩; (have HT15 : Hid (TwoP w NN FF _ _ _ _ _ w15) := HT13.out.next B15)))
    go_wp2_with (first | (go_at_call 26; refine (markYV HT15.out.V HbN.out w4.heap.size HT15.out.hx HT15.out.v1).mono ?_; rw [HCN.out]; rintro e w16 ⟨rfl, V16, B16⟩; (have HT16 : Hid (TwoP w NN FF (fun i => ((1 + i : Nat) : Int) % 256) _ _ _ _ w16) := HT15.out.mark V16 B16); (clear V16 B16)) | (go_at_call 27; (with_reducible show Calls Tryd.prog 27 _ w16 _); refine (heldYV HT16.out.V HbN.out).mono ?_; rw [HCN.out]; rintro e w17 ⟨rfl, hw17⟩; subst w17))
    have HB16 : Hid (Below w.heap.size w w16) := HT16.out.B
    go_wp2_with (first | (go_at_call 11; (with_reducible show Calls Tryd.prog 11 _ w16 _); refine (HT.out w16 HB16.out hn).mono ?_; rintro e w18 ⟨rfl, X18, B18⟩; (have B168 : Below w.heap.size w w18 := HB16.out.trans (B18.mono HB16.out.size))) | (go_at_call 23; (with_reducible show Calls Tryd.prog 23 _ w18 _); refine (H22.out _ w18 (HF.out _ B168) X18).mono ?_; rintro e w20 ⟨v2, rfl, V20, gV2, B20⟩; (obtain ⟨sw, lw, cw, rfl⟩ := V20.is); (have HT20 : Hid (TwoP w NN FF (fun i => ((1 + i : Nat) : Int) % 256) _ _ _ _ w20) := (HT16.out.next B18).next B20)) | (go_at_call 24; (with_reducible show Calls Tryd.prog 24 _ w20 _); refine (eqYV V20 HT20.out.U HbN.out).mono ?_; rintro e w21 ⟨rfl, B21⟩; (have HT21 : Hid (TwoP w NN FF (fun i => ((1 + i : Nat) : Int) % 256) _ _ _ _ w21) := HT20.out.next B21)) | (go_at_call 27; (with_reducible show Calls Tryd.prog 27 _ w21 _); refine (heldYV HT21.out.V HbN.out).mono ?_; rw [HCN.out]; rintro e w22 ⟨rfl, hw22⟩; subst w22))
    go_ret
    exact ⟨rfl, HT21.out.B⟩

theorem laid_met (os : Os) : laidMet Tryd.prog Rows.fnExactEncodeCodeRow.laid ((laidWorld os).forCall (fun _ _ => 0) ⟨#[], #[.slice none 0 0], []⟩).memory :=
  laidMet_of_run' 8 (by kernel_rfl) (by kernel_rfl)
set_option maxRecDepth 100000 in
theorem lifted (os : Os) (started : os.Started) (H : Type) (enc : TypeId × Value → H) :
    ReturnsInHanded {} Tryd.checked os 6 .any (fun w args => (Rows.fnExactEncodeCodeSpec.pre enc Tryd.prog Tryd.f6 [] false w args ∧ laidMetH Tryd.prog Rows.fnExactEncodeCodeRow.laid w) ∧ sizedMet enc Tryd.prog Tryd.f6 (OpenSpec.ofChange Rows.fnExactEncodeCodeSpec) false w args)
      (Rows.fnExactEncodeCodeSpec.post enc Tryd.prog Tryd.f6 false true false false) := by
  refine returnsInHanded_of_change_and (C := Tryd.checked) (X := fun w _ => laidMetH Tryd.prog Rows.fnExactEncodeCodeRow.laid w) (fun _ _ _ hh h => h.of_heap hh) own started (by kernel_rfl) Tryd.func6
    (ChangeSpec.witness_at (enc := enc) (C := Tryd.checked) (os := os) (X := fun w _ => laidMetH Tryd.prog Rows.fnExactEncodeCodeRow.laid w) false (laidWorld os) #[.slice none 0 0] 8 rfl (by kernel_rfl) (by kernel_rfl) (by kernel_rfl) (by kernel_rfl) (by kernel_rfl) (laid_met os)) ?_
  intro W base args ds gs before hval0 hW _ _ hL _
  have hval : ∀ (j : Nat) t v, Tryd.f6.params[j]? = some t → args[j]? = some v → Value.okWide Tryd.prog W .any base t v := hval0
  have hW' := hW
  obtain ⟨p, q, hA0, hV0, rfl, hfz, hnd⟩ := hW
  have hA : DataW.TrodAll enc Tryd.prog W 0 (fun _ => true) true Tryd.f6.params.toList args.toList ds p := hA0
  have hV : DataW.TrodVars enc Tryd.prog W (fun _ => true) ["loop.example/g00053/impl.callForms"] gs q := hV0
  rw [Tryd.params6] at hA hval
  obtain ⟨v0, vs0, d0, ds0, p0, q0, hargs, rfl, rfl, h0, r0⟩ := trodAll_cons hA
  obtain ⟨rfl, rfl, rfl⟩ := trodAll_nil r0
  obtain rfl : args = #[v0] := by cases args; simp_all
  have k0 := h0
  have lt0 : ∀ x ∈ p0, x.block < W.heap.size := fun x hx => by have := hW'.lt x (by simp [hx]); simpa using this
  obtain ⟨s0, n0, c0, O, D, A, B, C, X, rfl, m0, A0, _, _, _, _, _, x0⟩ := viewI Tryd.underlying22 Tryd.underlying32 (by kernel_rfl) rfl rfl rfl rfl rfl rfl (by kernel_rfl) (by kernel_rfl) (by kernel_rfl) (by kernel_rfl) (by kernel_rfl) (by kernel_rfl) Tryd.underlying3 Tryd.underlying3 Tryd.underlying3 Tryd.underlying3 Tryd.underlying3 Tryd.underlying30 (hval 0 22 v0 rfl rfl) h0 lt0
  obtain ⟨g, t, cs, fuel, d, p', rfl, hg, ht, hvar, hd, rfl⟩ := trodVars_one hV
  obtain rfl := Option.some.inj (gTab.symm.trans hg)
  obtain rfl := Option.some.inj (gTabType.symm.trans ht)
  obtain rfl : cs = cellsT := Option.some.inj (hvar.symm.trans (cells_of_laid hL))
  obtain ⟨rfl, rfl⟩ := DataW.Trod.unique (v := .agg cellsT) ⟨fuel, hd⟩ ⟨4, reads_table enc W _⟩
  clear hA0 hV0 hval0
  refine (walk W (forms_of_laid hL) s0 n0 c0 O D A B C X m0 A0 (fun i => word_of (x0 i))).mono fun e W' ⟨he, bel⟩ => ?_
  subst he
  have hv' : W'.var? Tryd.prog "loop.example/g00053/impl.callForms" = some cellsT := var?_below bel gTab (forms_of_laid hL).pos hvar
  have arg0 := Below.trod laidOut (by kernel_rfl) (of_decide_eq_true (by kernel_rfl)) k0 bel lt0
  exact ⟨_, rfl, _, _, _, [], _, MemPlace.row ⟨0, 0, none⟩ cellsT.size ++ [] ++ [], hW', trodAll_cons_mk (shut_bool Tryd.underlying4 _) trodAll_mk0, (trodAll_cons_mk arg0 trodAll_mk0), ⟨0, 91, cellsT, 4, [], [], hg, ht, hv', reads_table enc W' _, rfl, rfl⟩, bel.frame _, fun h => by cases h⟩
theorem said : Rows.FnExactEncodeCodeSaid :=
  OpenClaim.holds_of_wide 6 Tryd.f6 rfl rfl rfl rfl rfl rfl rfl ⟨rfl, rfl, rfl, rfl, rfl⟩ rfl rfl rfl rfl rfl (by kernel_rfl) Tryd.func6 (by kernel_rfl)
    (of_decide_eq_true (by kernel_rfl)) (by unfold Func.isWrapper; first | (rw [if_pos (by decide +kernel)]; kernel_rfl) | (rw [if_neg (by decide +kernel)]; exact ⟨rfl, rfl⟩))
    (fun os started H enc _ => lifted os started H enc)
theorem plain (f : FuncId) (fn : Func) (hf : Tryd.pinned.checked.prog.funcNamed "loop.example/g00053/laws.FnExactEncodeCode" = some f) (hfn : Tryd.pinned.checked.prog.funcs[f]? = some fn) :
    false = Tryd.pinned.checked.prog.looks [] ∧ ∀ (j : Nat) t, fn.params[j]? = some t → Tryd.pinned.checked.prog.wantsStandIn t = false := by
  obtain rfl : f = 6 := Option.some.inj ((show Tryd.prog.funcNamed "loop.example/g00053/laws.FnExactEncodeCode" = some 6 by kernel_rfl).symm.trans hf) |>.symm
  obtain rfl : fn = Tryd.f6 := (Option.some.inj (Tryd.func6.symm.trans hfn)).symm
  refine ⟨by kernel_rfl, fun j t ht => ?_⟩
  rw [Tryd.params6] at ht
  obtain rfl : t = 22 := by simpa using Array.mem_of_getElem? ht
  exact (show Tryd.prog.wantsStandIn 22 = false by kernel_rfl)
theorem card : Rows.FnExactEncodeCodeCardSaid :=
  Claim7.holds_tied_plain_at .later [] _ _ _ _ said (fun _ h => by cases h) (by kernel_rfl) (fun _ h => by cases h) fnExactEncodeCode_row_tie rfl ⟨rfl, rfl⟩ (by kernel_rfl) rfl plain (by kernel_rfl)
end Go.Proofs.YtablacgmedkgjaaDoor.fnExactEncodeCode
namespace Go.Proofs.YtablacgmedkgjaaDoor
theorem encodecode_holds : Rows.FnExactEncodeCodeCardSaid := fnExactEncodeCode.card
#print axioms encodecode_holds
end Go.Proofs.YtablacgmedkgjaaDoor
