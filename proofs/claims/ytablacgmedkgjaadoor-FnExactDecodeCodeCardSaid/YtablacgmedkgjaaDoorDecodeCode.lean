/- Proved: for every list of bytes the law FnExactDecodeCode returns true: DecodeCode answers as its model, every field of every instruction and whether there are any; it writes into no argument, and what it answers owns its memory (it may be written over, and a second call answers as the first); the argument reads afterwards as before; condition (a tied card): the table of calls starts as the text of the program lays it. -/
import Derived.Test.YtablacgmedkgjaaDoorRows
import Derived.Test.YtablacgmedkgjaaDoorDcm
import Derived.Test.YtablacgmedkgjaaDoorRwm
import Derived.Test.YtablacgmedkgjaaDoorTie
import Derived.Test.YtablacgmedkgjaaDoorCards
import Derived.OpenShut
import Derived.ChangeMaps5
import Derived.SevenTiedAt
namespace Go.Proofs.YtablacgmedkgjaaDoor.fnExactDecodeCode
open Go.ChangeShapes Go.WideShapes Go.ChangeAt Go.RowKit
set_option linter.unusedVariables false
theorem laidOut : laidOutB Tryd.prog = true := by kernel_rfl
theorem word_of {x : Int} (h : (Lit.int .u32 x).wf = true) : 0 ≤ x ∧ x < 4294967296 := by
  simp [Lit.wf] at h
  exact ⟨h.1, Int.lt_add_one_of_le h.2⟩
theorem byte_of {x : Int} (h : (Lit.int .u8 x).wf = true) : 0 ≤ x ∧ x < 256 := by
  simp [Lit.wf] at h
  exact ⟨h.1, Int.lt_add_one_of_le h.2⟩
/-- Both answers in a world: the model's block below q, the program's from q2 on. -/
structure TwoI (w : World) (n : Nat) (F0 F1 F2 F3 F4 F5 G0 G1 G2 G3 G4 G5 : Nat → Int) (u v : Value) (q q2 : Nat) (wx : World) : Prop where
  U : RowIV wx u n F0 F1 F2 F3 F4 F5
  V : RowIV wx v n G0 G1 G2 G3 G4 G5
  u1 : ∀ g, u.ownBlock = some g → g < q
  v1 : ∀ g, v.ownBlock = some g → q2 ≤ g
  B : Below w.heap.size w wx
  hq : w.heap.size ≤ q
  q12 : q ≤ q2
  hx : q2 ≤ wx.heap.size
variable {w wx w2 : World} {n : Nat} {F0 F1 F2 F3 F4 F5 G0 G1 G2 G3 G4 G5 : Nat → Int} {u v : Value} {q q2 : Nat}
theorem TwoI.next (h : TwoI w n F0 F1 F2 F3 F4 F5 G0 G1 G2 G3 G4 G5 u v q q2 wx) (b : Below wx.heap.size wx w2) : TwoI w n F0 F1 F2 F3 F4 F5 G0 G1 G2 G3 G4 G5 u v q q2 w2 :=
  ⟨h.U.next b, h.V.next b, h.u1, h.v1, h.B.trans (b.mono h.B.size), h.hq, h.q12, Nat.le_trans h.hx b.size⟩
theorem ne_of {u : Value} {p : Nat} (h : u.ownBlock ≠ some p) : u.ownBlock = none ∨ u.ownBlock ≠ some p := Or.inr h
theorem TwoI.only {p : Nat} (h : TwoI w n F0 F1 F2 F3 F4 F5 G0 G1 G2 G3 G4 G5 u v q q2 wx) (b : Only p wx w2) (hp : q ≤ p) (hp2 : p < q2) : TwoI w n F0 F1 F2 F3 F4 F5 G0 G1 G2 G3 G4 G5 u v q q2 w2 :=
  have g : wx.grownBy w2 (some p) := ⟨b.os, b.tape, b.output, b.size, fun k hk hne => b.block k hk (fun e => hne (by rw [e]))⟩
  ⟨h.U.grown g (Or.inr (fun e => by have := h.u1 p e; omega)), h.V.grown g (Or.inr (fun e => by have := h.v1 p e; omega)), h.u1, h.v1, h.B.trans (b.below (by have := h.hq; omega) h.B.size), h.hq, h.q12, Nat.le_trans h.hx b.size⟩
theorem TwoI.mark (h : TwoI w n F0 F1 F2 F3 F4 F5 G0 G1 G2 G3 G4 G5 u v q q2 wx) {H0 H1 H2 H3 H4 H5 : Nat → Int} (V2 : RowIV w2 v n H0 H1 H2 H3 H4 H5) (g : wx.grownBy w2 v.ownBlock) : TwoI w n F0 F1 F2 F3 F4 F5 H0 H1 H2 H3 H4 H5 u v q q2 w2 := by
  have hB : Below q2 wx w2 := ⟨g.os, g.tape, g.output, g.size, fun k hk => g.block k (by have := h.hx; omega) (fun e => by have := h.v1 k e.symm; omega)⟩
  refine ⟨h.U.grown g ?_, V2, h.u1, h.v1, h.B.trans (hB.mono (by have := h.hq; have := h.q12; omega)), h.hq, h.q12, Nat.le_trans h.hx g.size⟩
  cases e : u.ownBlock with
  | none => exact Or.inl rfl
  | some x =>
    refine Or.inr (fun e2 => ?_)
    have a := h.u1 x e
    have b := h.v1 x e2.symm
    have := h.q12
    omega
set_option maxHeartbeats 4000000 in
set_option maxRecDepth 100000 in
theorem walk (w : World) (G : Forms w) (s0 : Option Addr) (n0 c0 : Nat) (f0 : Nat → Int) (m0 : n0 ≤ 9223372036854775807) (A0 : Arg w s0 n0 (fun i => .int .u8 (f0 i))) (z0 : ∀ i, 0 ≤ f0 i ∧ f0 i < 256) :
    Calls Tryd.prog 7 #[.slice s0 n0 c0] w fun e w' => e = .returned (.bool true) ∧ Below w.heap.size w w' := by
  have HT : Hid (∀ w', Below w.heap.size w w' → n0 ≤ 1048576 → Calls Tryd.prog 29 #[.slice s0 n0 c0] w' fun r w'' => r = .returned (.slice (some ⟨w'.heap.size, 0, none⟩) n0 n0) ∧ Own w'' w'.heap.size n0 (fun i => .int .u8 (f0 i)) ∧ Below w'.heap.size w' w'') := fun w' b hn => argY (A0.next b) c0 hn
  have HF : Hid (∀ w', Below w.heap.size w w' → Forms w') := fun w' b => G.below b
  clear A0 G
  by_cases hbig : 1048576 < n0
  · have hb' : (1048576 : Int) < (n0 : Int) := by omega
    go_enter Tryd.func7, Tryd.ntmps7
    go_wp2
    go_ret
    exact ⟨rfl, Below.refl _ _⟩
  have hb' : (n0 : Int) ≤ 1048576 := by omega
  have hn : n0 ≤ 1048576 := by omega
  obtain ⟨GG, hGG⟩ : ∃ x : Bool, decOk f0 n0 = x := ⟨_, rfl⟩
  obtain ⟨NN, hNN⟩ : ∃ x : Nat, (if decOk f0 n0 then cnt (fz f0 n0) else 0) = x := ⟨_, rfl⟩
  have bN : NN ≤ 600 := by
    rw [← hNN]
    cases e : decOk f0 n0
    · simp
    · simp only [if_true]
      exact (decOk_len e).2
  obtain ⟨P0, hP0⟩ : ∃ x, pO (fz f0 n0) = x := ⟨_, rfl⟩
  obtain ⟨P1, hP1⟩ : ∃ x, pF (fz f0 n0) 0 = x := ⟨_, rfl⟩
  obtain ⟨P2, hP2⟩ : ∃ x, pF (fz f0 n0) 1 = x := ⟨_, rfl⟩
  obtain ⟨P3, hP3⟩ : ∃ x, pF (fz f0 n0) 2 = x := ⟨_, rfl⟩
  obtain ⟨P4, hP4⟩ : ∃ x, pF (fz f0 n0) 3 = x := ⟨_, rfl⟩
  obtain ⟨P5, hP5⟩ : ∃ x, pF (fz f0 n0) 4 = x := ⟨_, rfl⟩
  have H27 : Hid (∀ a w', Own w' a n0 (fun i => .int .u8 (f0 i)) → Calls Tryd.prog 28 #[.slice (some ⟨a, 0, none⟩) n0 n0] w' fun e w'' => ∃ v, e = .returned (.tuple #[v, .bool GG]) ∧ RowIV w'' v NN P0 P1 P2 P3 P4 P5 ∧ (∀ g, v.ownBlock = some g → w'.heap.size ≤ g) ∧ Below w'.heap.size w' w'') := fun a w' O => by
    refine (dec27 a n0 f0 w' O z0 hn).mono ?_
    rintro e w'' ⟨v, he, R, hg, b⟩
    rw [hNN, hP0, hP1, hP2, hP3, hP4, hP5] at R
    exact ⟨v, by rw [he, hGG], R, hg, b⟩
  have H29 : Hid (∀ a w', Forms w' → Own w' a n0 (fun i => .int .u8 (f0 i)) → Calls Tryd.prog 30 #[.slice (some ⟨a, 0, none⟩) n0 n0] w' fun e w'' => ∃ v, e = .returned (.tuple #[v, .bool GG]) ∧ RowIV w'' v NN P0 P1 P2 P3 P4 P5 ∧ (∀ g, v.ownBlock = some g → w'.heap.size ≤ g) ∧ Below w'.heap.size w' w'') := fun a w' g O => by
    refine (dec29 a n0 f0 w' g O z0 hn).mono ?_
    rintro e w'' ⟨v, he, R, hg, b⟩
    rw [hNN, hP0, hP1, hP2, hP3, hP4, hP5] at R
    exact ⟨v, by rw [he, hGG], R, hg, b⟩
  have HbN : Hid (NN ≤ 1048576) := show NN ≤ 1048576 by omega
  obtain ⟨CN, hCN⟩ : ∃ N : Int, ((1 + 6 * NN : Nat) : Int) = N := ⟨_, rfl⟩
  have nn : ¬ CN < 0 := by omega
  have HCN : Hid (((1 + 6 * NN : Nat) : Int) = CN) := hCN
  obtain ⟨M, hM⟩ : ∃ N : Int, ((1 + n0 : Nat) : Int) = N := ⟨_, rfl⟩
  have mm : ¬ M < 0 := by omega
  have HMM : Hid (((1 + n0 : Nat) : Int) = M) := hM
  clear hNN hGG hCN hM bN hP0 hP1 hP2 hP3 hP4 hP5 z0 hbig
  go_enter Tryd.func7, Tryd.ntmps7
  go_wp2_with (first | (go_at_call 29; (with_reducible show Calls Tryd.prog 29 _ w _); refine (HT.out w (Below.refl _ _) hn).mono ?_; rintro e w2 ⟨rfl, X2, B2⟩) | (go_at_call 28; refine (H27.out w.heap.size w2 X2).mono ?_; rintro e w3 ⟨u, rfl, U3, gU, B3⟩; (obtain ⟨su, lu, cu, rfl⟩ := U3.is)))
  have B13 : Below w.heap.size w w3 := B2.trans (B3.mono B2.size)
  have uL := U3.lt
  go_wp2_with (first | (go_at_call 29; (with_reducible show Calls Tryd.prog 29 _ w3 _); refine (HT.out w3 B13 hn).mono ?_; rintro e w4 ⟨rfl, X4, B4⟩; (have B14 : Below w.heap.size w w4 := B13.trans (B4.mono B13.size))) | (go_at_call 30; (with_reducible show Calls Tryd.prog 30 _ w4 _); refine (H29.out w3.heap.size w4 (HF.out _ B14) X4).mono ?_; rintro e w5 ⟨v, rfl, V5, gV, B5⟩; (obtain ⟨sv, lv, cv, rfl⟩ := V5.is)) | (go_at_call 13; (with_reducible show Calls Tryd.prog 13 _ w5 _); refine (eqRowIV V5 ((U3.next B4).next B5) HbN.out).mono ?_; rintro e w6 ⟨rfl, B6⟩))
  have B15 : Below w.heap.size w w5 := B14.trans (B5.mono B14.size)
  have z34 : w3.heap.size < w4.heap.size := X4.hi
  have HT6 : Hid (TwoI w NN P0 P1 P2 P3 P4 P5 P0 P1 P2 P3 P4 P5 (.slice su lu cu) (.slice sv lv cv) w3.heap.size w4.heap.size w6) := ⟨((U3.next B4).next B5).next B6, V5.next B6, uL, gV, B15.trans (B6.mono B15.size), B13.size, by omega, by have := B5.size; have := B6.size; omega⟩
  have HX6 : Hid (Own w6 w3.heap.size n0 (fun i => .int .u8 (f0 i))) := (X4.next B5).next B6
  have HB6 : Hid (Below w.heap.size w w6) := HT6.out.B
  clear X2 X4 U3 V5 B13 B14 B15 B2 B3 B4 B5 B6 gU gV uL
  cases GG
  all_goals
    go_wp2_with (first | (go_at_call 29; (with_reducible show Calls Tryd.prog 29 _ w6 _); refine (HT.out w6 HB6.out hn).mono ?_; rintro e w9 ⟨rfl, X9, B9⟩) | (go_at_call 24; refine (sameY (HX6.out.next B9) X9 n0 n0 hn).mono ?_; rintro e w10 ⟨rfl, B10⟩; (have HT10 : Hid (TwoI w NN P0 P1 P2 P3 P4 P5 _ _ _ _ _ _ _ _ _ _ w10) := (HT6.out.next B9).next B10); (have HX10 : Hid (Own w10 w3.heap.size n0 (fun i => .int .u8 (f0 i))) := (HX6.out.next B9).next B10)) | (go_at_call 26; refine (show Calls Tryd.prog 26 #[.slice (some ⟨w3.heap.size, 0, none⟩) n0 n0, .int .i64 1] w10 (fun r w' => r = .returned (.int .i64 M) ∧ Only w3.heap.size w10 w') from (markY HX10.out n0 1 hn (by decide)).mono (fun e w' ⟨h1, _, h3⟩ => ⟨by rw [h1, ← HMM.out], h3⟩)).mono ?_; rintro e w13 ⟨rfl, O13⟩; (have HT13 : Hid (TwoI w NN P0 P1 P2 P3 P4 P5 _ _ _ _ _ _ _ _ _ _ w13) := HT10.out.only O13 (Nat.le_refl _) z34)) | (go_at_call 13; (with_reducible show Calls Tryd.prog 13 _ w13 _); refine (eqRowIV HT13.out.V HT13.out.U HbN.out).mono ?_; rintro e w15 ⟨rfl, B15⟩; (have HT15 : Hid (TwoI w NN P0 P1 P2 P3 P4 P5 _ _ _ _ _ _ _ _ _ _ w15) := HT13.out.next B15)))
    go_wp2_with (first | (go_at_call 25; (with_reducible show Calls Tryd.prog 25 _ w15 _); refine (markIV HT15.out.V HbN.out).mono ?_; rw [HCN.out]; rintro e w16 ⟨rfl, V16, B16⟩; (have HT16 : Hid (TwoI w NN P0 P1 P2 P3 P4 P5 mkI0 mkI1 mkI2 mkI3 mkI4 mkI5 _ _ _ _ w16) := HT15.out.mark V16 B16); (clear V16 B16)) | (go_at_call 31; (with_reducible show Calls Tryd.prog 31 _ w16 _); refine (heldIV HT16.out.V HbN.out).mono ?_; rw [HCN.out]; rintro e w17 ⟨rfl, B17⟩))
    have HT17 : Hid (TwoI w NN P0 P1 P2 P3 P4 P5 mkI0 mkI1 mkI2 mkI3 mkI4 mkI5 _ _ _ _ w17) := HT16.out.next B17
    have HB17 : Hid (Below w.heap.size w w17) := HT17.out.B
    go_wp2_with (first | (go_at_call 29; (with_reducible show Calls Tryd.prog 29 _ w17 _); refine (HT.out w17 HB17.out hn).mono ?_; rintro e w18 ⟨rfl, X18, B18⟩; (have B168 : Below w.heap.size w w18 := HB17.out.trans (B18.mono HB17.out.size))) | (go_at_call 30; (with_reducible show Calls Tryd.prog 30 _ w18 _); refine (H29.out _ w18 (HF.out _ B168) X18).mono ?_; rintro e w20 ⟨v2, rfl, V20, gV2, B20⟩; (obtain ⟨sw, lw, cw, rfl⟩ := V20.is); (have HT20 : Hid (TwoI w NN P0 P1 P2 P3 P4 P5 mkI0 mkI1 mkI2 mkI3 mkI4 mkI5 _ _ _ _ w20) := (HT17.out.next B18).next B20)) | (go_at_call 13; (with_reducible show Calls Tryd.prog 13 _ w20 _); refine (eqRowIV V20 HT20.out.U HbN.out).mono ?_; rintro e w21 ⟨rfl, B21⟩; (have HT21 : Hid (TwoI w NN P0 P1 P2 P3 P4 P5 mkI0 mkI1 mkI2 mkI3 mkI4 mkI5 _ _ _ _ w21) := HT20.out.next B21)) | (go_at_call 31; (with_reducible show Calls Tryd.prog 31 _ w21 _); refine (heldIV HT21.out.V HbN.out).mono ?_; rw [HCN.out]; rintro e w22 ⟨rfl, B22⟩))
    go_ret
    exact ⟨rfl, HT21.out.B.trans (B22.mono HT21.out.B.size)⟩

theorem laid_met (os : Os) : laidMet Tryd.prog Rows.fnExactDecodeCodeRow.laid ((laidWorld os).forCall (fun _ _ => 0) ⟨#[], #[.slice none 0 0], []⟩).memory :=
  laidMet_of_run' 8 (by kernel_rfl) (by kernel_rfl)
set_option maxRecDepth 100000 in
theorem lifted (os : Os) (started : os.Started) (H : Type) (enc : TypeId × Value → H) :
    ReturnsInHanded {} Tryd.checked os 7 .any (fun w args => (Rows.fnExactDecodeCodeSpec.pre enc Tryd.prog Tryd.f7 [] false w args ∧ laidMetH Tryd.prog Rows.fnExactDecodeCodeRow.laid w) ∧ sizedMet enc Tryd.prog Tryd.f7 (OpenSpec.ofChange Rows.fnExactDecodeCodeSpec) false w args)
      (Rows.fnExactDecodeCodeSpec.post enc Tryd.prog Tryd.f7 false true false false) := by
  refine returnsInHanded_of_change_and (C := Tryd.checked) (X := fun w _ => laidMetH Tryd.prog Rows.fnExactDecodeCodeRow.laid w) (fun _ _ _ hh h => h.of_heap hh) own started (by kernel_rfl) Tryd.func7
    (ChangeSpec.witness_at (enc := enc) (C := Tryd.checked) (os := os) (X := fun w _ => laidMetH Tryd.prog Rows.fnExactDecodeCodeRow.laid w) false (laidWorld os) #[.slice none 0 0] 8 rfl (by kernel_rfl) (by kernel_rfl) (by kernel_rfl) (by kernel_rfl) (by kernel_rfl) (laid_met os)) ?_
  intro W base args ds gs before hval0 hW _ _ hL _
  have hval : ∀ (j : Nat) t v, Tryd.f7.params[j]? = some t → args[j]? = some v → Value.okWide Tryd.prog W .any base t v := hval0
  have hW' := hW
  obtain ⟨p, q, hA0, hV0, rfl, hfz, hnd⟩ := hW
  have hA : DataW.TrodAll enc Tryd.prog W 0 (fun _ => true) true Tryd.f7.params.toList args.toList ds p := hA0
  have hV : DataW.TrodVars enc Tryd.prog W (fun _ => true) ["loop.example/g00053/impl.callForms"] gs q := hV0
  rw [Tryd.params7] at hA hval
  obtain ⟨v0, vs0, d0, ds0, p0, q0, hargs, rfl, rfl, h0, r0⟩ := trodAll_cons hA
  obtain ⟨rfl, rfl, rfl⟩ := trodAll_nil r0
  obtain rfl : args = #[v0] := by cases args; simp_all
  have k0 := h0
  have lt0 : ∀ x ∈ p0, x.block < W.heap.size := fun x hx => by have := hW'.lt x (by simp [hx]); simpa using this
  obtain ⟨s0, n0, c0, f0, rfl, m0, A0, z0⟩ := view_ints Tryd.underlying40 Tryd.underlying5 (by kernel_rfl) (hval 0 40 v0 rfl rfl) h0 lt0
  obtain ⟨g, t, cs, fuel, d, p', rfl, hg, ht, hvar, hd, rfl⟩ := trodVars_one hV
  obtain rfl := Option.some.inj (gTab.symm.trans hg)
  obtain rfl := Option.some.inj (gTabType.symm.trans ht)
  obtain rfl : cs = cellsT := Option.some.inj (hvar.symm.trans (cells_of_laid hL))
  obtain ⟨rfl, rfl⟩ := DataW.Trod.unique (v := .agg cellsT) ⟨fuel, hd⟩ ⟨4, reads_table enc W _⟩
  clear hA0 hV0 hval0
  refine (walk W (forms_of_laid hL) s0 n0 c0 f0 m0 A0 (fun i => byte_of (z0 i))).mono fun e W' ⟨he, bel⟩ => ?_
  subst he
  have hv' : W'.var? Tryd.prog "loop.example/g00053/impl.callForms" = some cellsT := var?_below bel gTab (forms_of_laid hL).pos hvar
  have arg0 := Below.trod laidOut (by kernel_rfl) (of_decide_eq_true (by kernel_rfl)) k0 bel lt0
  exact ⟨_, rfl, _, _, _, [], _, MemPlace.row ⟨0, 0, none⟩ cellsT.size ++ [] ++ [], hW', trodAll_cons_mk (shut_bool Tryd.underlying4 _) trodAll_mk0, (trodAll_cons_mk arg0 trodAll_mk0), ⟨0, 91, cellsT, 4, [], [], hg, ht, hv', reads_table enc W' _, rfl, rfl⟩, bel.frame _, fun h => by cases h⟩
theorem said : Rows.FnExactDecodeCodeSaid :=
  OpenClaim.holds_of_wide 7 Tryd.f7 rfl rfl rfl rfl rfl rfl rfl ⟨rfl, rfl, rfl, rfl, rfl⟩ rfl rfl rfl rfl rfl (by kernel_rfl) Tryd.func7 (by kernel_rfl)
    (of_decide_eq_true (by kernel_rfl)) (by unfold Func.isWrapper; first | (rw [if_pos (by decide +kernel)]; kernel_rfl) | (rw [if_neg (by decide +kernel)]; exact ⟨rfl, rfl⟩))
    (fun os started H enc _ => lifted os started H enc)
theorem plain (f : FuncId) (fn : Func) (hf : Tryd.pinned.checked.prog.funcNamed "loop.example/g00053/laws.FnExactDecodeCode" = some f) (hfn : Tryd.pinned.checked.prog.funcs[f]? = some fn) :
    false = Tryd.pinned.checked.prog.looks [] ∧ ∀ (j : Nat) t, fn.params[j]? = some t → Tryd.pinned.checked.prog.wantsStandIn t = false := by
  obtain rfl : f = 7 := Option.some.inj ((show Tryd.prog.funcNamed "loop.example/g00053/laws.FnExactDecodeCode" = some 7 by kernel_rfl).symm.trans hf) |>.symm
  obtain rfl : fn = Tryd.f7 := (Option.some.inj (Tryd.func7.symm.trans hfn)).symm
  refine ⟨by kernel_rfl, fun j t ht => ?_⟩
  rw [Tryd.params7] at ht
  obtain rfl : t = 40 := by simpa using Array.mem_of_getElem? ht
  exact (show Tryd.prog.wantsStandIn 40 = false by kernel_rfl)
theorem card : Rows.FnExactDecodeCodeCardSaid :=
  Claim7.holds_tied_plain_at .later [] _ _ _ _ said (fun _ h => by cases h) (by kernel_rfl) (fun _ h => by cases h) fnExactDecodeCode_row_tie rfl ⟨rfl, rfl⟩ (by kernel_rfl) rfl plain (by kernel_rfl)
end Go.Proofs.YtablacgmedkgjaaDoor.fnExactDecodeCode
namespace Go.Proofs.YtablacgmedkgjaaDoor
theorem decodecode_holds : Rows.FnExactDecodeCodeCardSaid := fnExactDecodeCode.card
#print axioms decodecode_holds
end Go.Proofs.YtablacgmedkgjaaDoor
