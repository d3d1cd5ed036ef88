/- Proved: for every list of instructions the law FnExactNeedsOf returns true (NeedsOf answers as its model, its answer owns its memory, and it writes into no argument) and the argument reads afterwards as before; condition (a tied card): the table of calls starts as the text of the program lays it. -/
import Derived.Test.YtcgapochcahknaaDoorRows
import Derived.Test.YtcgapochcahknaaDoorPno
import Derived.Test.YtcgapochcahknaaDoorIss
import Derived.Test.YtcgapochcahknaaDoorTie
import Derived.Test.YtcgapochcahknaaDoorCards
import Derived.OpenShut
import Derived.ChangeMaps5
import Derived.SevenTiedAt
namespace Go.Proofs.YtcgapochcahknaaDoor.fnExactNeedsOf
open Go.ChangeShapes Go.WideShapes Go.ChangeAt Go.RowKit
set_option linter.unusedVariables false
theorem laidOut : laidOutB Tryd.prog = true := by kernel_rfl
theorem word_of {x : Int} (h : (Lit.int .u32 x).wf = true) : 0 ≤ x ∧ x < 4294967296 := by
  simp [Lit.wf] at h
  exact ⟨h.1, Int.lt_add_one_of_le h.2⟩
set_option maxRecDepth 100000 in
theorem sz (a : Option Addr) (n cap : Nat) (w : World) (hn : n ≤ 9223372036854775807) : Calls Tryd.prog 9 #[.slice a n cap, .int .i64 1048576] w fun r w' => (∃ z : Int, r = .returned (.int .i64 z) ∧ (z < 0 ∨ 0 ≤ z ∧ n ≤ 1048576)) ∧ w' = w := by
  by_cases big : 1048576 < n
  · have h : (1048576 : Int) - (n : Int) < 0 := by omega
    go_enter Tryd.func9, Tryd.ntmps9
    go_wp2
    go_ret
    exact ⟨⟨-1, rfl, Or.inl (by decide)⟩, rfl⟩
  · have h : 0 ≤ (1048576 : Int) - (n : Int) := by omega
    go_enter Tryd.func9, Tryd.ntmps9
    go_wp2
    go_ret
    exact ⟨⟨_, rfl, Or.inr ⟨h, by omega⟩⟩, rfl⟩
theorem offs_mul (S : Nat → Nat) (b : Nat) : ∀ m, (∀ x, x < m → S x ≤ b) → offs S m ≤ m * b
  | 0, _ => by simp [offs]
  | m + 1, h => by
    have := offs_mul S b m (fun x hx => h x (by omega))
    have := h m (by omega)
    rw [offs, Nat.succ_mul]
    omega
set_option maxHeartbeats 8000000 in
set_option maxRecDepth 100000 in
theorem grid (w : World) (G : Forms w) (s0 : Option Addr) (n0 c0 : Nat) (O D A B C X : Nat → Int) (m0 : n0 ≤ 9223372036854775807) (A0 : ArgI w s0 n0 O D A B C X) (x0 : ∀ i, 0 ≤ X i ∧ X i < 4294967296) (m : Nat) (L : Nat → List Int) (GG : Bool) (hm0 : n0 ≤ 1048576 → m ≤ 1048576 ∧ (∀ i, i < m → (L i).length ≤ 1048576) ∧ offs (fun x => (L x).length) m ≤ 1000000)
    (HM0 : n0 ≤ 1048576 → ∀ a v, RowI v a n0 O D A B C X → Calls Tryd.prog 19 #[.slice (some ⟨a, 0, none⟩) n0 n0] v fun e w' => ∃ u, e = .returned (.tuple #[u, .bool GG]) ∧ ARows w' u m L ∧ Below v.heap.size v w')
    (HP0 : n0 ≤ 1048576 → ∀ a v, Forms v → RowI v a n0 O D A B C X → Calls Tryd.prog 20 #[.slice (some ⟨a, 0, none⟩) n0 n0] v fun e w' => ∃ u, e = .returned (.tuple #[u, .bool GG]) ∧ Ans v.heap.size w' u m L ∧ Below v.heap.size v w') :
    Calls Tryd.prog 5 #[.slice s0 n0 c0] w fun e w' => e = .returned (.bool true) ∧ Below w.heap.size w w' := by
  have HS : Hid (Calls Tryd.prog 9 #[.slice s0 n0 c0, .int .i64 1048576] w fun r w' => (∃ z : Int, r = .returned (.int .i64 z) ∧ (z < 0 ∨ 0 ≤ z ∧ n0 ≤ 1048576)) ∧ w' = w) := sz s0 n0 c0 w m0
  have HT : Hid (∀ w', Below w.heap.size w w' → n0 ≤ 1048576 → Calls Tryd.prog 11 #[.slice s0 n0 c0] w' fun r w'' => r = .returned (.slice (some ⟨w'.heap.size, 0, none⟩) n0 n0) ∧ RowI w'' w'.heap.size n0 O D A B C X ∧ Below w'.heap.size w' w'') := fun w' b hn => argToI (A0.next b) c0 hn
  have HF : Hid (∀ w', Below w.heap.size w w' → Forms w') := fun w' b => G.below b
  clear A0 x0 G
  go_enter Tryd.func5, Tryd.ntmps5
  go_wp2_with (go_at_call 9; refine HS.out.mono ?_)
  rintro e w1 ⟨⟨z, rfl, hz⟩, hw⟩
  subst w1
  by_cases z0 : z < 0
  · go_wp2
    go_ret
    exact ⟨rfl, Below.refl _ _⟩
  obtain ⟨_, hn⟩ := hz.resolve_left z0
  clear hz
  obtain ⟨hm, hl, ht⟩ := hm0 hn
  have HMm := Hid.mk hm
  have HLl := Hid.mk hl
  have HTt := Hid.mk ht
  have H7 : Hid (∀ a v, RowI v a n0 O D A B C X → Calls Tryd.prog 19 #[.slice (some ⟨a, 0, none⟩) n0 n0] v fun e w' => ∃ u, e = .returned (.tuple #[u, .bool GG]) ∧ ARows w' u m L ∧ Below v.heap.size v w') := HM0 hn
  have H9 : Hid (∀ a v, Forms v → RowI v a n0 O D A B C X → Calls Tryd.prog 20 #[.slice (some ⟨a, 0, none⟩) n0 n0] v fun e w' => ∃ u, e = .returned (.tuple #[u, .bool GG]) ∧ Ans v.heap.size w' u m L ∧ Below v.heap.size v w') := HP0 hn
  clear hm0 hl ht HM0 HP0 hm
  cases GG
  all_goals
    go_wp2_with (first | (go_at_call 11; refine (HT.out w (Below.refl _ _) hn).mono ?_; rintro e w2 ⟨rfl, X2, B2⟩) | (go_at_call 19; refine (H7.out w.heap.size w2 X2).mono ?_; rintro e w3 ⟨u0, rfl, U0, B3⟩))
    have B03 : Hid (Below w.heap.size w w3) := B2.trans (B3.mono B2.size)
    have HU0 : Hid (ARows w3 u0 m L) := U0
    clear U0 X2 B2 B3
    go_wp2_with (first | (go_at_call 11; refine (HT.out w3 B03.out hn).mono ?_; rintro e w4 ⟨rfl, X4, B4⟩) | (go_at_call 20; refine (H9.out w3.heap.size w4 (HF.out _ (B03.out.trans (B4.mono B03.out.size))) X4).mono ?_; rintro e w5 ⟨u1, rfl, U1, B5⟩))
    have D5 : Hid (Below w3.heap.size w3 w5) := B4.trans (B5.mono B4.size)
    have U15 : Hid (Ans w4.heap.size w5 u1 m L) := U1
    have X5 : Hid (RowI w5 w3.heap.size n0 O D A B C X) := X4.next B5
    have L34 : Hid (w3.heap.size < w4.heap.size) := X4.hi
    clear U1 X4 B4 B5
    have h10 := eq10 m L u1 u0 w5 HMm.out HLl.out U15.out.arows (HU0.out.next D5.out)
    go_wp2_with (first | (go_at_call 21; refine h10.mono ?_; rintro e w6 ⟨rfl, B6⟩; (have D6 : Hid (Below w3.heap.size w3 w6) := D5.out.trans (B6.mono D5.out.size))) | (go_at_call 11; refine (HT.out w6 (B03.out.trans (D6.out.mono B03.out.size)) hn).mono ?_; rintro e w7 ⟨rfl, X7, B7⟩) | (go_at_call 13; refine (eqRowI ((X5.out.next B6).next B7) X7 n0 n0 hn).mono ?_; rintro e w8 ⟨rfl, B8⟩))
    have B58 : Hid (Below w5.heap.size w5 w8) := (B6.trans (B7.mono B6.size)).trans (B8.mono (by have := B6.size; have := B7.size; omega))
    have U18 : Hid (Ans w4.heap.size w8 u1 m L) := U15.out.next B58.out
    have X8 : Hid (RowI w8 w3.heap.size n0 O D A B C X) := X5.out.next B58.out
    have D8 : Hid (Below w3.heap.size w3 w8) := D5.out.trans (B58.out.mono D5.out.size)
    have h12 := markI X8.out n0 hn
    have kk : ¬ ((1 + 6 * n0 : Nat) : Int) < 0 := by omega
    generalize ((1 + 6 * n0 : Nat) : Int) = kz at h12 kk
    clear B6 B7 B8 X7 U15 X5 D5 D6 B58 X8 h10
    go_wp2_with (go_at_call 14; refine h12.mono ?_; rintro e w9 ⟨rfl, X9, K9⟩)
    have U19 : Hid (Ans w4.heap.size w9 u1 m L) := U18.out.only K9 L34.out
    have D9 : Hid (Below w3.heap.size w3 w9) := D8.out.trans (K9.below (Nat.le_refl _) D8.out.size)
    clear X9 K9 h12 U18 D8
    have h10 := eq10 m L u1 u0 w9 HMm.out HLl.out U19.out.arows (HU0.out.next D9.out)
    go_wp2_with (go_at_call 21; refine h10.mono ?_; rintro e w10 ⟨rfl, B10⟩)
    obtain ⟨ad1, cp1, p1, o1, rfl, G1⟩ := U19.out.next B10
    have D10 : Hid (Below w3.heap.size w3 w10) := D9.out.trans (B10.mono D9.out.size)
    have h13 := mark13 G1 cp1 HMm.out HTt.out
    have qq : ¬ ((1 + offs (fun x => (L x).length) m : Nat) : Int) < 0 := by omega
    have H14 : Hid (∀ (v : World) (F : Nat → Nat → Int), Gm w4.heap.size v ad1 m (fun x => (L x).length) p1 o1 F → (∀ x i, x < m → i < (fun x => (L x).length) x → F x i = ((1 + offs (fun x => (L x).length) x + i : Nat) : Int)) → Calls Tryd.prog 23 #[.slice ad1 m cp1, .int .i64 1] v fun r w' => r = .returned (.int .i64 ((1 + offs (fun x => (L x).length) m : Nat) : Int)) ∧ w' = v) := fun v F g hF => held14 g hF cp1 HMm.out HTt.out
    generalize ((1 + offs (fun x => (L x).length) m : Nat) : Int) = qz at h13 H14 qq
    clear B10 U19 D9 G1 h10
    go_wp2_with (first | (go_at_call 22; refine h13.mono ?_; rintro e w11 ⟨rfl, ⟨F1, G11, hF1⟩, B11⟩) | (go_at_call 23; refine (H14.out w11 F1 G11 hF1).mono ?_; rintro e w12 ⟨rfl, hw⟩; subst w12))
    have D11 : Hid (Below w3.heap.size w3 w11) := D10.out.trans (B11.mono (by have := L34.out; omega))
    have B011 : Hid (Below w.heap.size w w11) := B03.out.trans (D11.out.mono B03.out.size)
    have HG11 : Hid (Gm w4.heap.size w11 ad1 m (fun x => (L x).length) p1 o1 F1) := G11
    have HhF1 := Hid.mk hF1
    clear B11 G11 hF1 h13 D10
    go_wp2_with (first | (go_at_call 11; refine (HT.out w11 B011.out hn).mono ?_; rintro e w13 ⟨rfl, X13, B13⟩) | (go_at_call 20; refine (H9.out w11.heap.size w13 (HF.out _ (B011.out.trans (B13.mono B011.out.size))) X13).mono ?_; rintro e w14 ⟨u2, rfl, U2, B14⟩))
    have B1114 : Hid (Below w11.heap.size w11 w14) := B13.trans (B14.mono B13.size)
    have D14 : Hid (Below w3.heap.size w3 w14) := D11.out.trans (B1114.out.mono D11.out.size)
    have B014 : Hid (Below w.heap.size w w14) := B011.out.trans (B1114.out.mono B011.out.size)
    have G14 : Hid (Gm w4.heap.size w14 ad1 m (fun x => (L x).length) p1 o1 F1) := HG11.out.next B1114.out
    have h10 := eq10 m L u2 u0 w14 HMm.out HLl.out U2.arows (HU0.out.next D14.out)
    clear U2 X13 B13 B14 HG11 D11 B011 B1114
    go_wp2_with (first | (go_at_call 21; refine h10.mono ?_; rintro e w15 ⟨rfl, B15⟩) | (go_at_call 23; refine (H14.out w15 F1 (G14.out.next B15) HhF1.out).mono ?_; rintro e w16 ⟨rfl, hw⟩; subst w16))
    go_ret
    exact ⟨rfl, B014.out.trans (B15.mono B014.out.size)⟩
set_option maxHeartbeats 4000000 in
set_option maxRecDepth 100000 in
theorem walk (w : World) (G : Forms w) (s0 : Option Addr) (n0 c0 : Nat) (O D A B C X : Nat → Int) (m0 : n0 ≤ 9223372036854775807) (A0 : ArgI w s0 n0 O D A B C X) (x0 : ∀ i, 0 ≤ X i ∧ X i < 4294967296) :
    Calls Tryd.prog 5 #[.slice s0 n0 c0] w fun e w' => e = .returned (.bool true) ∧ Below w.heap.size w w' := by
  have HX : Rc.wd ⟨O, D, A, B, C, X, n0⟩ := fun i _ => x0 i
  refine grid w G s0 n0 c0 O D A B C X m0 A0 x0 (Rc.nn ⟨O, D, A, B, C, X, n0⟩) (Rc.nl ⟨O, D, A, B, C, X, n0⟩) (Rc.row ⟨O, D, A, B, C, X, n0⟩) (fun hn => ?_) (fun hn a v r => mneedsof a 0 n0 ⟨O, D, A, B, C, X, n0⟩ v r.ir HX hn) (fun hn a v g r => pneedsof a 0 n0 ⟨O, D, A, B, C, X, n0⟩ v g r.ir HX hn)
  have hb : Rc.nn ⟨O, D, A, B, C, X, n0⟩ ≤ 64 := by
    unfold Rc.nn
    split
    · rename_i h; exact (Rc.row_n h).2
    · omega
  have hl : ∀ x, x < Rc.nn ⟨O, D, A, B, C, X, n0⟩ → (Rc.nl ⟨O, D, A, B, C, X, n0⟩ x).length ≤ 64 := fun x hx => by have := Rc.nl_len ⟨O, D, A, B, C, X, n0⟩ x; omega
  have h1 := offs_mul (fun x => (Rc.nl ⟨O, D, A, B, C, X, n0⟩ x).length) 64 (Rc.nn ⟨O, D, A, B, C, X, n0⟩) hl
  refine ⟨by omega, fun i hi => by have := hl i hi; omega, ?_⟩
  omega

theorem laid_met (os : Os) : laidMet Tryd.prog Rows.fnExactNeedsOfRow.laid ((laidWorld os).forCall (fun _ _ => 0) ⟨#[], #[.slice none 0 0], []⟩).memory :=
  laidMet_of_run' 8 (by kernel_rfl) (by kernel_rfl)
set_option maxRecDepth 100000 in
theorem lifted (os : Os) (started : os.Started) (H : Type) (enc : TypeId × Value → H) :
    ReturnsInHanded {} Tryd.checked os 5 .any (fun w args => (Rows.fnExactNeedsOfSpec.pre enc Tryd.prog Tryd.f5 [] false w args ∧ laidMetH Tryd.prog Rows.fnExactNeedsOfRow.laid w) ∧ sizedMet enc Tryd.prog Tryd.f5 (OpenSpec.ofChange Rows.fnExactNeedsOfSpec) false w args)
      (Rows.fnExactNeedsOfSpec.post enc Tryd.prog Tryd.f5 false true false false) := by
  refine returnsInHanded_of_change_and (C := Tryd.checked) (X := fun w _ => laidMetH Tryd.prog Rows.fnExactNeedsOfRow.laid w) (fun _ _ _ hh h => h.of_heap hh) own started (by kernel_rfl) Tryd.func5
    (ChangeSpec.witness_at (enc := enc) (C := Tryd.checked) (os := os) (X := fun w _ => laidMetH Tryd.prog Rows.fnExactNeedsOfRow.laid w) false (laidWorld os) #[.slice none 0 0] 8 rfl (by kernel_rfl) (by kernel_rfl) (by kernel_rfl) (by kernel_rfl) (by kernel_rfl) (laid_met os)) ?_
  intro W base args ds gs before hval0 hW _ _ hL _
  have hval : ∀ (j : Nat) t v, Tryd.f5.params[j]? = some t → args[j]? = some v → Value.okWide Tryd.prog W .any base t v := hval0
  have hW' := hW
  obtain ⟨p, q, hA0, hV0, rfl, hfz, hnd⟩ := hW
  have hA : DataW.TrodAll enc Tryd.prog W 0 (fun _ => true) true Tryd.f5.params.toList args.toList ds p := hA0
  have hV : DataW.TrodVars enc Tryd.prog W (fun _ => true) ["loop.example/g00053/impl.callForms"] gs q := hV0
  rw [Tryd.params5] at hA hval
  obtain ⟨v0, vs0, d0, ds0, p0, q0, hargs, rfl, rfl, h0, r0⟩ := trodAll_cons hA
  obtain ⟨rfl, rfl, rfl⟩ := trodAll_nil r0
  obtain rfl : args = #[v0] := by cases args; simp_all
  have k0 := h0
  have lt0 : ∀ x ∈ p0, x.block < W.heap.size := fun x hx => by have := hW'.lt x (by simp [hx]); simpa using this
  obtain ⟨s0, n0, c0, O, D, A, B, C, X, rfl, m0, A0, _, _, _, _, _, x0⟩ := viewI Tryd.underlying22 Tryd.underlying33 (by kernel_rfl) rfl rfl rfl rfl rfl rfl (by kernel_rfl) (by kernel_rfl) (by kernel_rfl) (by kernel_rfl) (by kernel_rfl) (by kernel_rfl) Tryd.underlying3 Tryd.underlying3 Tryd.underlying3 Tryd.underlying3 Tryd.underlying3 Tryd.underlying31 (hval 0 22 v0 rfl rfl) h0 lt0
  obtain ⟨g, t, cs, fuel, d, p', rfl, hg, ht, hvar, hd, rfl⟩ := trodVars_one hV
  obtain rfl := Option.some.inj (gTab.symm.trans hg)
  obtain rfl := Option.some.inj (gTabType.symm.trans ht)
  obtain rfl : cs = cellsT := Option.some.inj (hvar.symm.trans (cells_of_laid hL))
  obtain ⟨rfl, rfl⟩ := DataW.Trod.unique (v := .agg cellsT) ⟨fuel, hd⟩ ⟨4, reads_table enc W _⟩
  clear hA0 hV0 hval0
  refine (walk W (forms_of_laid hL) s0 n0 c0 O D A B C X m0 A0 (fun i => word_of (x0 i))).mono fun e W' ⟨he, bel⟩ => ?_
  subst he
  have hv' : W'.var? Tryd.prog "loop.example/g00053/impl.callForms" = some cellsT := var?_below bel gTab (forms_of_laid hL).pos hvar
  have arg0 := Below.trod laidOut (by kernel_rfl) (of_decide_eq_true (by kernel_rfl)) k0 bel lt0
  exact ⟨_, rfl, _, _, _, [], _, MemPlace.row ⟨0, 0, none⟩ cellsT.size ++ [] ++ [], hW', trodAll_cons_mk (shut_bool Tryd.underlying4 _) trodAll_mk0, (trodAll_cons_mk arg0 trodAll_mk0), ⟨0, 121, cellsT, 4, [], [], hg, ht, hv', reads_table enc W' _, rfl, rfl⟩, bel.frame _, fun h => by cases h⟩
theorem said : Rows.FnExactNeedsOfSaid :=
  OpenClaim.holds_of_wide 5 Tryd.f5 rfl rfl rfl rfl rfl rfl rfl ⟨rfl, rfl, rfl, rfl, rfl⟩ rfl rfl rfl rfl rfl (by kernel_rfl) Tryd.func5 (by kernel_rfl)
    (of_decide_eq_true (by kernel_rfl)) (by unfold Func.isWrapper; first | (rw [if_pos (by decide +kernel)]; kernel_rfl) | (rw [if_neg (by decide +kernel)]; exact ⟨rfl, rfl⟩))
    (fun os started H enc _ => lifted os started H enc)
theorem plain (f : FuncId) (fn : Func) (hf : Tryd.pinned.checked.prog.funcNamed "loop.example/g00053/laws.FnExactNeedsOf" = some f) (hfn : Tryd.pinned.checked.prog.funcs[f]? = some fn) :
    false = Tryd.pinned.checked.prog.looks [] ∧ ∀ (j : Nat) t, fn.params[j]? = some t → Tryd.pinned.checked.prog.wantsStandIn t = false := by
  obtain rfl : f = 5 := Option.some.inj ((show Tryd.prog.funcNamed "loop.example/g00053/laws.FnExactNeedsOf" = some 5 by kernel_rfl).symm.trans hf) |>.symm
  obtain rfl : fn = Tryd.f5 := (Option.some.inj (Tryd.func5.symm.trans hfn)).symm
  refine ⟨by kernel_rfl, fun j t ht => ?_⟩
  rw [Tryd.params5] at ht
  obtain rfl : t = 22 := by simpa using Array.mem_of_getElem? ht
  exact (show Tryd.prog.wantsStandIn 22 = false by kernel_rfl)
theorem card : Rows.FnExactNeedsOfCardSaid :=
  Claim7.holds_tied_plain_at .later [] _ _ _ _ said (fun _ h => by cases h) (by kernel_rfl) (fun _ h => by cases h) fnExactNeedsOf_row_tie rfl ⟨rfl, rfl⟩ (by kernel_rfl) rfl plain (by kernel_rfl)
end Go.Proofs.YtcgapochcahknaaDoor.fnExactNeedsOf
namespace Go.Proofs.YtcgapochcahknaaDoor
theorem needsof_holds : Rows.FnExactNeedsOfCardSaid := fnExactNeedsOf.card
#print axioms needsof_holds
end Go.Proofs.YtcgapochcahknaaDoor
