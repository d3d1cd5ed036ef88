/- Proved: for every row of fields, every whole number and every row of rows of words the law FnExactPackStruct returns true: PackStruct answers as its model, every byte and whether there are any; it writes into no argument, and what it answers owns its memory (it may be written over, and a second call answers as the first); the arguments read afterwards as before; no conditions. -/
import Derived.Test.YteakeaclpcgopaaRows
import Derived.Test.YteakeaclpcgopaaPckT
import Derived.Test.YteakeaclpcgopaaFldArg
import Derived.OpenShut
import Derived.ChangeMaps5
namespace Go.Proofs.Yteakeaclpcgopaa.fnExactPackStruct
open Go.ChangeShapes Go.WideShapes Go.ChangeAt Go.RowKit
set_option linter.unusedVariables false
theorem own : ownKnob Try.prog.godebug = none := by kernel_rfl
theorem laidOut : laidOutB Try.prog = true := by kernel_rfl
open Tk (Own Only)

set_option maxHeartbeats 2000000 in
theorem walk (w : World) (s0 : Option Addr) (n0 c0 : Nat) (K0 T0 : Nat → ByteArray) (J0 : Nat → Int) (m0 : n0 ≤ 9223372036854775807) (A0 : Arg3 w s0 n0 K0 T0 J0) (k0 : ∀ i, (K0 i).size ≤ 9223372036854775807) (t0 : ∀ i, (T0 i).size ≤ 9223372036854775807) (j0 : ∀ i, (Lit.int .i64 (J0 i)).wf = true) (a1 : Int) (w1 : (Lit.int .i64 a1).wf = true) (s2 : Option Addr) (nv c2 : Nat) (A0x : Nat → Option Addr) (L0 C0 : Nat → Nat) (F0 : Nat → Nat → Int) (m2 : nv ≤ 9223372036854775807) (A2 : ArgSS w s2 nv A0x L0 C0 F0) (l2 : ∀ i, i < nv → L0 i ≤ 9223372036854775807) (f2 : ∀ i j, 0 ≤ F0 i j ∧ F0 i j < 4294967296) :
    Calls Try.prog 7 #[.slice s0 n0 c0, .int .i64 a1, .slice s2 nv c2] w fun e w' => e = .returned (.bool true) ∧ Below w.heap.size w w' := by
  have HS : Hid (Calls Try.prog 9 #[.slice s0 n0 c0, .int .i64 1048576] w fun r w' => (∃ z : Int, r = .returned (.int .i64 z) ∧ (z < 0 ∨ 0 ≤ z ∧ z ≤ 1048576 ∧ n0 ≤ 1048576 ∧ ∀ i, i < n0 → (K0 i).size ≤ 1048576 ∧ (T0 i).size ≤ 1048576)) ∧ Below w.heap.size w w') := argSz A0 c0 m0 k0 t0
  have HT : Hid (∀ w', Below w.heap.size w w' → n0 ≤ 1048576 → Calls Try.prog 11 #[.slice s0 n0 c0] w' fun r w'' => r = .returned (.slice (some ⟨w'.heap.size, 0, none⟩) n0 n0) ∧ Row3 w'' w'.heap.size n0 K0 T0 J0 ∧ Below w'.heap.size w' w'') := fun w' b hn => argN (A0.next b) c0 hn
  have HU : Hid (∀ w', Below w.heap.size w w' → nv ≤ 1048576 → (∀ i, i < nv → L0 i ≤ 1048576) → Calls Try.prog 26 #[.slice s2 nv c2] w' fun r w'' => ∃ S, r = .returned (.slice (some ⟨w'.heap.size, 0, none⟩) nv nv) ∧ SS w'' (.slice (some ⟨w'.heap.size, 0, none⟩) nv nv) nv S L0 F0 ∧ Own w'' w'.heap.size nv S ∧ Sep (.slice (some ⟨w'.heap.size, 0, none⟩) nv nv) nv S ∧ (∀ i, i < nv → ∀ g, (S i).ownBlock = some g → w'.heap.size < g) ∧ (∀ i, i < nv → ∃ g, S i = .slice (some ⟨g, 0, none⟩) (L0 i) (L0 i)) ∧ Below w'.heap.size w' w'') := fun w' b h1 h2 => to26 (A2.next b) c2 h1 h2
  have HZ : Hid (∀ w' z, Below w.heap.size w w' → 0 ≤ z → z ≤ 1048576 → Calls Try.prog 24 #[.slice s2 nv c2, .int .i64 z] w' fun r w'' => (∃ y : Int, r = .returned (.int .i64 y) ∧ (y < 0 ∨ 0 ≤ y ∧ nv ≤ 1048576 ∧ (∀ i, i < nv → L0 i ≤ 1048576) ∧ cumL L0 nv ≤ 1048577)) ∧ Below w'.heap.size w' w'') := fun w' z b h1 h2 => sz24 (A2.next b) c2 m2 l2 z h1 h2
  clear A0 A2 k0 t0 j0 l2
  go_enter Try.func7, Try.ntmps7
  go_wp2_with (go_at_call 9; refine HS.out.mono ?_)
  first | rintro e w1 ⟨⟨z, rfl, hz⟩, B1⟩ | rintro e w1 z rfl hz B1
  by_cases z0 : z < 0
  · go_wp2
    go_ret
    exact ⟨rfl, B1⟩
  obtain ⟨z00, z1, hn, hsz⟩ := hz.resolve_left z0
  have HSZ : Hid (∀ i, i < n0 → (K0 i).size ≤ 1048576) := fun i hi => (hsz i hi).1
  have H24 := HZ.out w1 z B1 z00 z1
  have HH24 : Hid (Calls Try.prog 24 #[.slice s2 nv c2, .int .i64 z] w1 fun r w'' => (∃ y : Int, r = .returned (.int .i64 y) ∧ (y < 0 ∨ 0 ≤ y ∧ nv ≤ 1048576 ∧ (∀ i, i < nv → L0 i ≤ 1048576) ∧ cumL L0 nv ≤ 1048577)) ∧ Below w1.heap.size w1 w'') := H24
  clear hz hsz H24
  go_wp2_with (go_at_call 24; refine HH24.out.mono ?_)
  first | rintro e w1b ⟨⟨y, rfl, hy⟩, B1b⟩ | rintro e w1b y rfl hy B1b
  have B1c : Below w.heap.size w w1b := B1.trans (B1b.mono B1.size)
  by_cases y0 : y < 0
  · go_wp2
    go_ret
    exact ⟨rfl, B1c⟩
  obtain ⟨_, hnv, hlv, hcv⟩ := hy.resolve_left y0
  have HLv : Hid (∀ i, i < nv → L0 i ≤ 1048576) := hlv
  have HCv : Hid (cumL L0 nv ≤ 1048577) := hcv
  have HFv : Hid (∀ i j, 0 ≤ F0 i j ∧ F0 i j < 4294967296) := f2
  clear hy hlv hcv f2 B1 B1b
  have bN := okP_bound K0 T0 J0 a1 n0 nv L0 F0
  obtain ⟨NN, hNN⟩ : ∃ x, (if okP K0 T0 J0 a1 n0 nv L0 F0 = true then (laySz T0 J0 a1 n0).toNat else 0) = x := ⟨_, rfl⟩
  obtain ⟨OK, hOK⟩ : ∃ x : Bool, okP K0 T0 J0 a1 n0 nv L0 F0 = x := ⟨_, rfl⟩
  obtain ⟨FF, hFF⟩ : ∃ x, piP T0 J0 a1 F0 n0 = x := ⟨_, rfl⟩
  have H25 : Hid (∀ a b G w', Row3 w' a n0 K0 T0 J0 → RowsG w' b nv G L0 F0 → Calls Try.prog 25 #[.slice (some ⟨a, 0, none⟩) n0 n0, .int .i64 a1, .slice (some ⟨b, 0, none⟩) nv nv] w' (SaysP w' NN FF OK)) := fun a b G w' X Y => by
    have h := packS25 n0 a b nv K0 T0 J0 G L0 F0 a1 w' X hn HSZ.out Y HLv.out HFv.out
    rw [hNN, hFF, hOK] at h
    exact h
  have H27 : Hid (∀ a b G w', Row3 w' a n0 K0 T0 J0 → RowsG w' b nv G L0 F0 → Calls Try.prog 27 #[.slice (some ⟨a, 0, none⟩) n0 n0, .int .i64 a1, .slice (some ⟨b, 0, none⟩) nv nv] w' (SaysP w' NN FF OK)) := fun a b G w' X Y => by
    have h := packS27 n0 a b nv K0 T0 J0 G L0 F0 a1 w' X hn HSZ.out Y HLv.out HFv.out
    rw [hNN, hFF, hOK] at h
    exact h
  rw [hNN] at bN
  have HbN : Hid (NN ≤ 1048576) := show NN ≤ 1048576 by omega
  obtain ⟨CN, hCN⟩ : ∃ N : Int, ((1 + NN : Nat) : Int) = N := ⟨_, rfl⟩
  have nn : ¬ CN < 0 := by omega
  have HCN : Hid (((1 + NN : Nat) : Int) = CN) := hCN
  obtain ⟨M, hM⟩ : ∃ N : Int, ((1 + 3 * n0 : Nat) : Int) = N := ⟨_, rfl⟩
  have HMM : Hid (((1 + 3 * n0 : Nat) : Int) = M) := hM
  obtain ⟨M2, hM2⟩ : ∃ N : Int, ((1 + 3 * n0 + (cumL L0 nv - 1) : Nat) : Int) = N := ⟨_, rfl⟩
  have mm : ¬ M2 < 0 := by omega
  have HM2 : Hid (((1 + 3 * n0 + (cumL L0 nv - 1) : Nat) : Int) = M2) := hM2
  have HK0 : Hid (1 + 3 * n0 + cumL L0 nv ≤ 9000000) := show 1 + 3 * n0 + cumL L0 nv ≤ 9000000 by have := HCv.out; omega
  clear hNN hOK hFF hCN hM hM2 bN HSZ
  go_wp2_with (first | (go_at_call 11; (with_reducible show Calls Try.prog 11 _ w1b _); refine (HT.out w1b B1c hn).mono ?_; rintro e w2 ⟨rfl, X2, B2⟩; (have B12 : Below w.heap.size w w2 := B1c.trans (B2.mono B1c.size))) | (go_at_call 26; (with_reducible show Calls Try.prog 26 _ w2 _); refine (HU.out w2 B12 hnv HLv.out).mono ?_; rintro e w3 ⟨S3, rfl, U3, O3, sep3, ge3, fo3, B3⟩) | (go_at_call 25; refine (H25.out _ _ _ w3 (X2.next B3) (rowsG_of U3 O3 fo3)).mono ?_; rintro e w4 ⟨u, rfl, U4, gU, B4⟩; (obtain ⟨su, lu, cu, rfl⟩ := U4.is)))
  have B14 : Below w.heap.size w w4 := (B12.trans (B3.mono B12.size)).trans (B4.mono (by have := B12.size; have := B3.size; omega))
  clear X2 U3 O3 sep3 ge3 fo3 B2 B3 B4 gU
  go_wp2_with (first | (go_at_call 11; (with_reducible show Calls Try.prog 11 _ w4 _); refine (HT.out w4 B14 hn).mono ?_; rintro e w5 ⟨rfl, X5, B5⟩; (have B15 : Below w.heap.size w w5 := B14.trans (B5.mono B14.size))) | (go_at_call 26; (with_reducible show Calls Try.prog 26 _ w5 _); refine (HU.out w5 B15 hnv HLv.out).mono ?_; rintro e w6 ⟨S6, rfl, Y6, O6, sep6, ge6, fo6, B6⟩) | (go_at_call 27; (with_reducible show Calls Try.prog 27 _ w6 _); refine (H27.out _ _ _ w6 (X5.next B6) (rowsG_of Y6 O6 fo6)).mono ?_; rintro e w7 ⟨v, rfl, V7, gV, B7⟩; (obtain ⟨sv, lv, cv, rfl⟩ := V7.is); (have HT7 : Hid (TwoP w NN FF FF (.slice su lu cu) (.slice sv lv cv) w4.heap.size w6.heap.size w7) := ⟨(((U4.next B5).next B6).next B7), V7, U4.lt, gV, (B15.trans (B6.mono B15.size)).trans (B7.mono (by have := B15.size; have := B6.size; omega)), B14.size, by have := B5.size; have := B6.size; omega, B7.size⟩); (have HX7 : Hid (Row3 w7 w4.heap.size n0 K0 T0 J0) := (X5.next B6).next B7); (have l45 : w4.heap.size < w5.heap.size := X5.hi); (have l56 : w5.heap.size < w6.heap.size := O6.hi); (have HG6 : Hid (∀ i, i < nv → w5.heap.size < (S6 i).ownBlock.getD 0 ∧ (S6 i).ownBlock.getD 0 < w6.heap.size) := fun i hi => (by obtain ⟨g, eg⟩ := fo6 i hi; have h1 := ge6 i hi g (by rw [eg]; rfl); have h2 := (Y6.row i hi).lt g (by rw [eg]; rfl); rw [eg]; exact ⟨h1, h2⟩)); (have HG62 : Hid (∀ i j, i < j → j < nv → (S6 i).ownBlock.getD 0 ≠ (S6 j).ownBlock.getD 0) := fun i j hij hj => (by obtain ⟨g, eg⟩ := fo6 i (by omega); obtain ⟨g', eg'⟩ := fo6 j hj; have h1 := sep6.two i j (by omega) hj (by omega) g (by rw [eg]; rfl); rw [eg'] at h1; rw [eg, eg']; intro e; exact h1 (by simp [Value.ownBlock] at e ⊢; exact e.symm))); (have HY7 : Hid (SS w7 (.slice (some ⟨w5.heap.size, 0, none⟩) nv nv) nv S6 L0 F0) := Y6.next B7); (have HYG7 : Hid (RowsG w7 w5.heap.size nv (fun i => (S6 i).ownBlock.getD 0) L0 F0) := (rowsG_of Y6 O6 fo6).next B7); (clear X5 Y6 O6 sep6 ge6 fo6 B5 B6 B7 U4 V7 gV B14 B15)) | (go_at_call 28; (with_reducible show Calls Try.prog 28 _ w7 _); refine (eqYV HT7.out.V HT7.out.U HbN.out).mono ?_; rintro e w8 ⟨rfl, B8⟩; (have HT8 : Hid (TwoP w NN FF _ _ _ _ _ w8) := HT7.out.next B8); (have HX8 : Hid (Row3 w8 w4.heap.size n0 K0 T0 J0) := HX7.out.next B8); (have HY8 : Hid (SS w8 (.slice (some ⟨w5.heap.size, 0, none⟩) nv nv) nv S6 L0 F0) := HY7.out.next B8); (have HYG8 : Hid (RowsG w8 w5.heap.size nv (fun i => (S6 i).ownBlock.getD 0) L0 F0) := HYG7.out.next B8)))
  have HB8 : Hid (Below w.heap.size w w8) := HT8.out.B
  clear HX7 HY7 HYG7 HT7
  cases OK
  all_goals
    go_wp2_with (first | (go_at_call 11; (with_reducible show Calls Try.prog 11 _ w8 _); refine (HT.out w8 HB8.out hn).mono ?_; rintro e w9 ⟨rfl, X9, B9⟩) | (go_at_call 13; refine (eqN (HX8.out.next B9) X9 n0 n0 hn).mono ?_; rintro e w10 ⟨rfl, B10⟩; (have HT10 : Hid (TwoP w NN FF _ _ _ _ _ w10) := (HT8.out.next B9).next B10); (have HX10 : Hid (Row3 w10 w4.heap.size n0 K0 T0 J0) := (HX8.out.next B9).next B10); (have HY10 : Hid (SS w10 (.slice (some ⟨w5.heap.size, 0, none⟩) nv nv) nv S6 L0 F0) := (HY8.out.next B9).next B10); (have HYG10 : Hid (RowsG w10 w5.heap.size nv (fun i => (S6 i).ownBlock.getD 0) L0 F0) := (HYG8.out.next B9).next B10)))
    go_wp2_with (first | (go_at_call 26; (with_reducible show Calls Try.prog 26 _ w10 _); refine (HU.out w10 HT10.out.B hnv HLv.out).mono ?_; rintro e w11 ⟨S11, rfl, Y11, O11, _, _, _, B11⟩) | (go_at_call 29; refine (eqSS (HY10.out.next B11) Y11 hnv HLv.out).mono ?_; rintro e w12 ⟨rfl, B12b⟩; (have HT12 : Hid (TwoP w NN FF _ _ _ _ _ w12) := (HT10.out.next B11).next B12b); (have HX12 : Hid (Row3 w12 w4.heap.size n0 K0 T0 J0) := (HX10.out.next B11).next B12b); (have HYG12 : Hid (RowsG w12 w5.heap.size nv (fun i => (S6 i).ownBlock.getD 0) L0 F0) := (HYG10.out.next B11).next B12b)) | (go_at_call 19; refine (markF (RowF.of HX12.out) n0 hn).mono ?_; rw [HMM.out]; rintro e w13 ⟨rfl, R13, O13⟩; (have HT13 : Hid (TwoP w NN FF _ _ _ _ _ w13) := HT12.out.only O13 (by omega) (by omega)); (have HYG13 : Hid (RowsG w13 w5.heap.size nv (fun i => (S6 i).ownBlock.getD 0) L0 F0) := ⟨HYG12.out.top.but O13 (by omega), fun i hi => (HYG12.out.row i hi).but O13 (by have := HG6.out i hi; omega)⟩)) | (go_at_call 30; (rw [← HMM.out]); refine (mark30k HYG13.out (1 + 3 * n0) hnv HLv.out HK0.out (fun i hi => by have := HG6.out i hi; omega) HG62.out).mono ?_; rw [HM2.out]; rintro e w14 ⟨rfl, O14⟩; (have HT14 : Hid (TwoP w NN FF _ _ _ _ _ w14) := HT13.out.onlyG O14 (fun i hi => by have := HG6.out i hi; omega))) | (go_at_call 28; (with_reducible show Calls Try.prog 28 _ w14 _); refine (eqYV HT14.out.V HT14.out.U HbN.out).mono ?_; rintro e w15 ⟨rfl, B15⟩; (have HT15 : Hid (TwoP w NN FF _ _ _ _ _ w15) := HT14.out.next B15)))
    go_wp2_with (first | (go_at_call 31; refine (markYV HT15.out.V HbN.out w6.heap.size HT15.out.hx HT15.out.v1).mono ?_; rw [HCN.out]; rintro e w16 ⟨rfl, V16, B16⟩; (have HT16 : Hid (TwoP w NN FF (fun i => ((1 + i : Nat) : Int) % 256) _ _ _ _ w16) := HT15.out.mark V16 B16); (clear V16 B16)) | (go_at_call 32; (with_reducible show Calls Try.prog 32 _ w16 _); refine (heldYV HT16.out.V HbN.out).mono ?_; rw [HCN.out]; rintro e w17 ⟨rfl, hw17⟩; subst w17))
    have HB16 : Hid (Below w.heap.size w w16) := HT16.out.B
    go_wp2_with (first | (go_at_call 11; (with_reducible show Calls Try.prog 11 _ w16 _); refine (HT.out w16 HB16.out hn).mono ?_; rintro e w18 ⟨rfl, X18, B18⟩; (have B168 : Below w.heap.size w w18 := HB16.out.trans (B18.mono HB16.out.size))) | (go_at_call 26; (with_reducible show Calls Try.prog 26 _ w18 _); refine (HU.out w18 B168 hnv HLv.out).mono ?_; rintro e w19 ⟨S19, rfl, Y19, O19, _, _, fo19, B19⟩) | (go_at_call 27; (with_reducible show Calls Try.prog 27 _ w19 _); refine (H27.out _ _ _ w19 (X18.next B19) (rowsG_of Y19 O19 fo19)).mono ?_; rintro e w20 ⟨v2, rfl, V20, gV2, B20⟩; (obtain ⟨sw, lw, cw, rfl⟩ := V20.is); (have HT20 : Hid (TwoP w NN FF (fun i => ((1 + i : Nat) : Int) % 256) _ _ _ _ w20) := ((HT16.out.next B18).next B19).next B20)) | (go_at_call 28; (with_reducible show Calls Try.prog 28 _ w20 _); refine (eqYV V20 HT20.out.U HbN.out).mono ?_; rintro e w21 ⟨rfl, B21⟩; (have HT21 : Hid (TwoP w NN FF (fun i => ((1 + i : Nat) : Int) % 256) _ _ _ _ w21) := HT20.out.next B21)) | (go_at_call 32; (with_reducible show Calls Try.prog 32 _ w21 _); refine (heldYV HT21.out.V HbN.out).mono ?_; rw [HCN.out]; rintro e w22 ⟨rfl, hw22⟩; subst w22))
    go_ret
    exact ⟨rfl, HT21.out.B⟩

set_option maxRecDepth 100000 in
theorem lifted (os : Os) (started : os.Started) (H : Type) (enc : TypeId × Value → H) :
    ReturnsInHanded {} Try.checked os 7 .any (Rows.fnExactPackStructSpec.pre6 enc Try.prog Try.f7 Rows.fnExactPackStructRow.domain false) (Rows.fnExactPackStructSpec.post enc Try.prog Try.f7 false true false false) := by
  refine returnsInHanded_of_change (C := Try.checked) own started (by kernel_rfl) Try.func7
    (ChangeSpec.witness6 (enc := enc) (C := Try.checked) false ⟨#[], #[.slice none 0 0, .int .i64 0, .slice none 0 0], []⟩ 8 (by kernel_rfl) (by kernel_rfl) (by kernel_rfl) (by kernel_rfl)) ?_
  intro W base args ds gs before hval0 hW hcnd _
  have hval : ∀ (j : Nat) t v, Try.f7.params[j]? = some t → args[j]? = some v → Value.okWide Try.prog W .any base t v := hval0
  have hW' := hW
  obtain ⟨p, q, hA0, hV, rfl, hfz, hnd⟩ := hW
  have hA : DataW.TrodAll enc Try.prog W 0 (fun _ => true) true Try.f7.params.toList args.toList ds p := hA0
  rw [Try.params7] at hA hval
  obtain ⟨v0, vs0, d0, ds0, p0, q0, hargs, rfl, rfl, h0, r0⟩ := trodAll_cons hA
  obtain ⟨v1, vs1, d1, ds1, p1, q1, rfl, rfl, rfl, h1, r1⟩ := trodAll_cons r0
  obtain ⟨v2, vs2, d2, ds2, p2, q2, rfl, rfl, rfl, h2, r2⟩ := trodAll_cons r1
  obtain ⟨rfl, rfl, rfl⟩ := trodAll_nil r2
  obtain rfl : args = #[v0, v1, v2] := by cases args; simp_all
  obtain ⟨rfl, rfl⟩ := trodVars_none hV
  simp only [List.append_nil] at hW'
  have k0 := h0
  have lt0 : ∀ x ∈ p0, x.block < W.heap.size := fun x hx => by have := hW'.lt x (by simp [hx]); simpa using this
  obtain ⟨s0, n0, c0, K0, T0, J0, rfl, m0, A0, kk0, t0, j0⟩ := view_nodes Try.underlying22 Try.underlying60 (by kernel_rfl) rfl rfl rfl (by kernel_rfl) (by kernel_rfl) (by kernel_rfl) Try.underlying9 Try.underlying9 Try.underlying3 (hval 0 22 v0 rfl rfl) h0 lt0
  have arg0 : ∀ (W' : World), Below W.heap.size W W' → DataW.Trod enc Try.prog W' 0 (fun b => decide (b < W.heap.size)) true 22 (.slice s0 n0 c0) d0 p0 := fun W' hn => Below.trod laidOut (by kernel_rfl) (of_decide_eq_true (by kernel_rfl)) k0 hn lt0
  obtain ⟨a1, rfl, rfl, rfl, w1⟩ := open_int Try.underlying3 (hval 1 3 v1 rfl rfl) h1
  have k2 := h2
  have lt2 : ∀ x ∈ p2, x.block < W.heap.size := fun x hx => by have := hW'.lt x (by simp [hx]); simpa using this
  obtain ⟨s2, n2, c2, A0x2, L2, C2, F2, rfl, m2, A2, l2, f2⟩ := view_rows Try.underlying44 Try.underlying93 Try.underlying94 (by kernel_rfl) (by kernel_rfl) (hval 2 44 v2 rfl rfl) h2 lt2
  have arg2 : ∀ (W' : World), Below W.heap.size W W' → DataW.Trod enc Try.prog W' 0 (fun b => decide (b < W.heap.size)) true 44 (.slice s2 n2 c2) d2 p2 := fun W' hn => Below.trod laidOut (by kernel_rfl) (of_decide_eq_true (by kernel_rfl)) k2 hn lt2
  clear hA0 hval0
  refine (walk W s0 n0 c0 K0 T0 J0 m0 A0 kk0 t0 j0 a1 w1 s2 n2 c2 A0x2 L2 C2 F2 m2 A2 l2 f2).mono fun e W' ⟨he, hg⟩ => ?_
  subst he
  refine ⟨_, rfl, _, _, _, [], p0 ++ ([] ++ (p2 ++ [])), [], hW', (trodAll_cons_mk (shut_bool Try.underlying4 _) trodAll_mk0), (trodAll_cons_mk (arg0 _ hg) (trodAll_cons_mk (shut_int Try.underlying3 w1) (trodAll_cons_mk (arg2 _ hg) trodAll_mk0))), rfl, hg.frame _, fun h => by cases h⟩
theorem over : Rows.fnExactPackStructRow.holds Try.pinned (OpenSpec.ofChange Rows.fnExactPackStructSpec) :=
  OpenClaim.holds_of_wide 7 Try.f7 rfl rfl rfl rfl rfl rfl rfl ⟨rfl, rfl, rfl, rfl, rfl⟩ rfl rfl rfl rfl rfl (by kernel_rfl) Try.func7 (by kernel_rfl)
    (of_decide_eq_true (by kernel_rfl)) (by unfold Func.isWrapper; first | (rw [if_pos (by decide +kernel)]; kernel_rfl) | (rw [if_neg (by decide +kernel)]; exact ⟨rfl, rfl⟩))
    (fun os started H enc _ => lifted os started H enc)
end Go.Proofs.Yteakeaclpcgopaa.fnExactPackStruct
namespace Go.Proofs.Yteakeaclpcgopaa
theorem packstruct_holds : Rows.FnExactPackStructSaid := fnExactPackStruct.over
#print axioms packstruct_holds
end Go.Proofs.Yteakeaclpcgopaa
