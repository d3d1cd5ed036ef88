/- Proved: for every row of fields, every whole number and every row of bytes the law FnExactUnpackStruct returns true: UnpackStruct answers as its model, every word of every row and whether there are any; it writes into no argument, and what it answers owns its memory (it may be written over, and a second call answers as the first); the arguments read afterwards as before; no conditions. -/
import Derived.Test.YteakeaclpcgopaaRows
import Derived.Test.YteakeaclpcgopaaUnpS
import Derived.Test.YteakeaclpcgopaaFldArg
import Derived.OpenShut
import Derived.ChangeMaps5
namespace Go.Proofs.Yteakeaclpcgopaa.fnExactUnpackStruct
open Go.ChangeShapes Go.WideShapes Go.ChangeAt Go.RowKit
set_option linter.unusedVariables false
theorem own : ownKnob Try.prog.godebug = none := by kernel_rfl
theorem laidOut : laidOutB Try.prog = true := by kernel_rfl
open Tk (Own Only Arg view_ints)

set_option maxHeartbeats 2000000 in
theorem walk (w : World) (s0 : Option Addr) (n0 c0 : Nat) (K0 T0 : Nat → ByteArray) (J0 : Nat → Int) (m0 : n0 ≤ 9223372036854775807) (A0 : Arg3 w s0 n0 K0 T0 J0) (k0 : ∀ i, (K0 i).size ≤ 9223372036854775807) (t0 : ∀ i, (T0 i).size ≤ 9223372036854775807) (j0 : ∀ i, (Lit.int .i64 (J0 i)).wf = true) (a1 : Int) (w1 : (Lit.int .i64 a1).wf = true) (s2 : Option Addr) (n2 c2 : Nat) (f2 : Nat → Int) (m2 : n2 ≤ 9223372036854775807) (A2 : Arg w s2 n2 (fun i => .int .u8 (f2 i))) (z2 : ∀ i, (Lit.int .u8 (f2 i)).wf = true) :
    Calls Try.prog 8 #[.slice s0 n0 c0, .int .i64 a1, .slice s2 n2 c2] w fun e w' => e = .returned (.bool true) ∧ Below w.heap.size w w' := by
  by_cases hn2 : n2 ≤ 1048576
  case neg =>
    have h2 : (1048576 : Int) < (n2 : Int) := by omega
    clear A0 A2 k0 t0 z2 hn2 j0
    go_enter Try.func8, Try.ntmps8
    go_wp2
    go_ret
    exact ⟨rfl, Below.refl _ _⟩
  have h2 : ¬ (1048576 : Int) < (n2 : Int) := by omega
  have HS : Hid (Calls Try.prog 9 #[.slice s0 n0 c0, .int .i64 1048576] w fun r w' => (∃ z : Int, r = .returned (.int .i64 z) ∧ (z < 0 ∨ 0 ≤ z ∧ z ≤ 1048576 ∧ n0 ≤ 1048576 ∧ ∀ i, i < n0 → (K0 i).size ≤ 1048576 ∧ (T0 i).size ≤ 1048576)) ∧ Below w.heap.size w w') := argSz A0 c0 m0 k0 t0
  have HT : Hid (∀ w', Below w.heap.size w w' → n0 ≤ 1048576 → Calls Try.prog 11 #[.slice s0 n0 c0] w' fun r w'' => r = .returned (.slice (some ⟨w'.heap.size, 0, none⟩) n0 n0) ∧ Row3 w'' w'.heap.size n0 K0 T0 J0 ∧ Below w'.heap.size w' w'') := fun w' b hn => argN (A0.next b) c0 hn
  have HY : Hid (∀ w', Below w.heap.size w w' → Calls Try.prog 34 #[.slice s2 n2 c2] w' fun r w'' => r = .returned (.slice (some ⟨w'.heap.size, 0, none⟩) n2 n2) ∧ Own w'' w'.heap.size n2 (fun i => .int .u8 (f2 i)) ∧ Below w'.heap.size w' w'') := fun w' b => Tk.argY (A2.next b) c2 hn2
  have hD : Hid (∀ i, 0 ≤ f2 i ∧ f2 i < 256) := fun i => by
    have h := z2 i
    simp [Lit.wf] at h
    have e1 : IntKind.u8.min = 0 := by decide
    have e2 : IntKind.u8.max = 255 := by decide
    omega
  clear A0 A2 k0 t0 z2 j0
  go_enter Try.func8, Try.ntmps8
  go_wp2_with (go_at_call 9; refine HS.out.mono ?_)
  rintro e w1 z rfl hz B1
  by_cases z0 : z < 0
  · go_wp2
    go_ret
    exact ⟨rfl, B1⟩
  obtain ⟨_, z1, hn, hsz⟩ := hz.resolve_left z0
  have HSZ : Hid (∀ i, i < n0 → (K0 i).size ≤ 1048576) := fun i hi => (hsz i hi).1
  clear hz hsz
  obtain ⟨bN, bL⟩ := okU_bounds K0 T0 J0 a1 n0 n2
  obtain ⟨NN, hNN⟩ : ∃ x, (if okU K0 T0 J0 a1 n0 n2 = true then n0 else 0) = x := ⟨_, rfl⟩
  obtain ⟨OK, hOK⟩ : ∃ x : Bool, okU K0 T0 J0 a1 n0 n2 = x := ⟨_, rfl⟩
  obtain ⟨LL, hLL⟩ : ∃ x, uwL T0 J0 = x := ⟨_, rfl⟩
  obtain ⟨FF, hFF⟩ : ∃ x, uwF T0 J0 a1 f2 = x := ⟨_, rfl⟩
  have H33 : Hid (∀ a d w', Row3 w' a n0 K0 T0 J0 → Own w' d n2 (fun i => .int .u8 (f2 i)) → Calls Try.prog 33 #[.slice (some ⟨a, 0, none⟩) n0 n0, .int .i64 a1, .slice (some ⟨d, 0, none⟩) n2 n2] w' (SaysU w' NN LL FF OK)) := fun a d w' X Y => by
    have h := unp33 n0 a d n2 n2 K0 T0 J0 f2 a1 w' X hn HSZ.out Y hn2 hD.out
    rw [hNN, hLL, hFF, hOK] at h
    exact h
  have H35 : Hid (∀ a d w', Row3 w' a n0 K0 T0 J0 → Own w' d n2 (fun i => .int .u8 (f2 i)) → Calls Try.prog 35 #[.slice (some ⟨a, 0, none⟩) n0 n0, .int .i64 a1, .slice (some ⟨d, 0, none⟩) n2 n2] w' (SaysU w' NN LL FF OK)) := fun a d w' X Y => by
    have h := unp35 n0 a d n2 K0 T0 J0 f2 a1 w' X hn HSZ.out Y hn2 hD.out
    rw [hNN, hLL, hFF, hOK] at h
    exact h
  rw [hNN] at bN
  rw [hNN, hLL] at bL
  have HbN : Hid (NN ≤ 1048576) := show NN ≤ 1048576 by omega
  have HbL : Hid (∀ i, i < NN → LL i ≤ 1048576) := fun i hi => Nat.le_trans (bL i hi) (by omega)
  have HbC : Hid (cumL LL NN ≤ 1048577) := by
    have := cumL_max LL 1024 NN bL
    show cumL LL NN ≤ 1048577
    omega
  obtain ⟨CN, hCN⟩ : ∃ N : Int, ((cumL LL NN : Nat) : Int) = N := ⟨_, rfl⟩
  have nn : ¬ CN < 0 := by omega
  have HCN : Hid (((cumL LL NN : Nat) : Int) = CN) := hCN
  obtain ⟨M, hM⟩ : ∃ N : Int, ((1 + 3 * n0 : Nat) : Int) = N := ⟨_, rfl⟩
  have HMM : Hid (((1 + 3 * n0 : Nat) : Int) = M) := hM
  obtain ⟨M2, hM2⟩ : ∃ N : Int, ((1 + 3 * n0 + n2 : Nat) : Int) = N := ⟨_, rfl⟩
  have mm : ¬ M2 < 0 := by omega
  have HM2 : Hid (((1 + 3 * n0 + n2 : Nat) : Int) = M2) := hM2
  have HK0 : Hid (1 + 3 * n0 ≤ 10000000) := show 1 + 3 * n0 ≤ 10000000 by omega
  clear hNN hOK hLL hFF hCN hM hM2 bN bL hD HSZ
  go_wp2_with (first | (go_at_call 11; (with_reducible show Calls Try.prog 11 _ w1 _); refine (HT.out w1 B1 hn).mono ?_; rintro e w2 ⟨rfl, X2, B2⟩; (have B12 : Below w.heap.size w w2 := B1.trans (B2.mono B1.size))) | (go_at_call 34; (with_reducible show Calls Try.prog 34 _ w2 _); refine (HY.out w2 B12).mono ?_; rintro e w3 ⟨rfl, Y3, B3⟩) | (go_at_call 33; refine (H33.out _ _ w3 (X2.next B3) Y3).mono ?_; rintro e w4 ⟨u, S, rfl, U4, sepU, gU, gSU, B4⟩; (obtain ⟨su, lu, cu, rfl⟩ := U4.is)))
  have B14 : Below w.heap.size w w4 := (B12.trans (B3.mono B12.size)).trans (B4.mono (by have := B12.size; have := B3.size; omega))
  clear X2 Y3 B2 B3 B4 sepU gU gSU
  go_wp2_with (first | (go_at_call 11; (with_reducible show Calls Try.prog 11 _ w4 _); refine (HT.out w4 B14 hn).mono ?_; rintro e w5 ⟨rfl, X5, B5⟩; (have B15 : Below w.heap.size w w5 := B14.trans (B5.mono B14.size))) | (go_at_call 34; (with_reducible show Calls Try.prog 34 _ w5 _); refine (HY.out w5 B15).mono ?_; rintro e w6 ⟨rfl, Y6, B6⟩) | (go_at_call 35; (with_reducible show Calls Try.prog 35 _ w6 _); refine (H35.out _ _ w6 (X5.next B6) Y6).mono ?_; rintro e w7 ⟨v, S', rfl, V7, sepV, gV, gSV, B7⟩; (obtain ⟨sv, lv, cv, rfl⟩ := V7.is); (have HT7 : Hid (TwoU w NN LL FF FF (.slice su lu cu) (.slice sv lv cv) S S' w4.heap.size w6.heap.size w7) := ⟨(((U4.next B5).next B6).next B7), V7, U4.lt, fun i hi g hg => (U4.row i hi).lt g hg, gV, gSV, (B15.trans (B6.mono B15.size)).trans (B7.mono (by have := B15.size; have := B6.size; omega)), B14.size, by have := B5.size; have := B6.size; omega, B7.size⟩); (have HX7 : Hid (Row3 w7 w4.heap.size n0 K0 T0 J0) := (X5.next B6).next B7); (have HY7 : Hid (Own w7 w5.heap.size n2 (fun i => .int .u8 (f2 i))) := Y6.next B7); (have l45 : w4.heap.size < w5.heap.size := X5.hi); (have l56 : w5.heap.size < w6.heap.size := Y6.hi); (have HSep : Hid (Sep (.slice sv lv cv) NN S') := sepV); (have HgS : Hid (∀ i, i < NN → ∀ g, (S' i).ownBlock = some g → w6.heap.size ≤ g) := gSV); (clear X5 Y6 B5 B6 B7 U4 V7 sepV gV gSV B14 B15)) | (go_at_call 29; (with_reducible show Calls Try.prog 29 _ w7 _); refine (eqSS HT7.out.V HT7.out.U HbN.out HbL.out).mono ?_; rintro e w8 ⟨rfl, B8⟩; (have HT8 : Hid (TwoU w NN LL FF _ _ _ _ _ _ _ w8) := HT7.out.next B8); (have HX8 := HX7.out.next B8); (have HY8 := HY7.out.next B8)))
  have HB8 : Hid (Below w.heap.size w w8) := HT8.out.B
  have HXX : Hid (Row3 w8 w4.heap.size n0 K0 T0 J0) := HX8
  have HYY : Hid (Own w8 w5.heap.size n2 (fun i => .int .u8 (f2 i))) := HY8
  clear HX8 HY8 HX7 HY7 HT7
  cases OK
  all_goals
    go_wp2_with (first | (go_at_call 11; (with_reducible show Calls Try.prog 11 _ w8 _); refine (HT.out w8 HB8.out hn).mono ?_; rintro e w9 ⟨rfl, X9, B9⟩) | (go_at_call 13; refine (eqN (HXX.out.next B9) X9 n0 n0 hn).mono ?_; rintro e w10 ⟨rfl, B10⟩; (have HT10 : Hid (TwoU w NN LL FF _ _ _ _ _ _ _ w10) := (HT8.out.next B9).next B10); (have HX10 : Hid (Row3 w10 w4.heap.size n0 K0 T0 J0) := (HXX.out.next B9).next B10); (have HY10 : Hid (Own w10 w5.heap.size n2 (fun i => .int .u8 (f2 i))) := (HYY.out.next B9).next B10)))
    go_wp2_with (first | (go_at_call 34; (with_reducible show Calls Try.prog 34 _ w10 _); refine (HY.out w10 HT10.out.B).mono ?_; rintro e w11 ⟨rfl, Y11, B11⟩) | (go_at_call 28; refine (Tk.sameY (HY10.out.next B11) Y11 n2 n2 hn2).mono ?_; rintro e w12 ⟨rfl, B12b⟩; (have HT12 : Hid (TwoU w NN LL FF _ _ _ _ _ _ _ w12) := (HT10.out.next B11).next B12b); (have HX12 : Hid (Row3 w12 w4.heap.size n0 K0 T0 J0) := (HX10.out.next B11).next B12b); (have HY12 : Hid (Own w12 w5.heap.size n2 (fun i => .int .u8 (f2 i))) := (HY10.out.next B11).next B12b)) | (go_at_call 19; refine (markF (RowF.of HX12.out) n0 hn).mono ?_; rw [HMM.out]; rintro e w13 ⟨rfl, R13, O13⟩; (have HT13 : Hid (TwoU w NN LL FF _ _ _ _ _ _ _ w13) := HT12.out.only O13 (by omega) (by omega)); (have HY13 : Hid (Own w13 w5.heap.size n2 (fun i => .int .u8 (f2 i))) := HY12.out.but O13 (by omega))) | (go_at_call 31; (rw [← HMM.out]); refine (Tk.markY HY13.out n2 (1 + 3 * n0) hn2 HK0.out).mono ?_; rw [HM2.out]; rintro e w14 ⟨rfl, R14, O14⟩; (have HT14 : Hid (TwoU w NN LL FF _ _ _ _ _ _ _ w14) := HT13.out.only O14 (by omega) (by omega))) | (go_at_call 29; (with_reducible show Calls Try.prog 29 _ w14 _); refine (eqSS HT14.out.V HT14.out.U HbN.out HbL.out).mono ?_; rintro e w15 ⟨rfl, B15⟩; (have HT15 : Hid (TwoU w NN LL FF _ _ _ _ _ _ _ w15) := HT14.out.next B15)))
    go_wp2_with (first | (go_at_call 30; refine (markSS HT15.out.V HSep.out HbN.out HbL.out HbC.out w6.heap.size HT15.out.hx HgS.out).mono ?_; rw [HCN.out]; rintro e w16 ⟨rfl, V16, B16⟩; (have HT16 : Hid (TwoU w NN LL FF (mkSS LL) _ _ _ _ _ _ w16) := HT15.out.mark V16 B16); (clear V16 B16)) | (go_at_call 36; (with_reducible show Calls Try.prog 36 _ w16 _); refine (heldSS HT16.out.V HbN.out HbL.out HbC.out).mono ?_; rw [HCN.out]; rintro e w17 ⟨rfl, hw17⟩; subst w17))
    have HB16 : Hid (Below w.heap.size w w16) := HT16.out.B
    go_wp2_with (first | (go_at_call 11; (with_reducible show Calls Try.prog 11 _ w16 _); refine (HT.out w16 HB16.out hn).mono ?_; rintro e w18 ⟨rfl, X18, B18⟩; (have B168 : Below w.heap.size w w18 := HB16.out.trans (B18.mono HB16.out.size))) | (go_at_call 34; (with_reducible show Calls Try.prog 34 _ w18 _); refine (HY.out w18 B168).mono ?_; rintro e w19 ⟨rfl, Y19, B19⟩) | (go_at_call 35; (with_reducible show Calls Try.prog 35 _ w19 _); refine (H35.out _ _ w19 (X18.next B19) Y19).mono ?_; rintro e w20 ⟨v2, S2, rfl, V20, sepV2, gV2, gSV2, B20⟩; (obtain ⟨sw, lw, cw, rfl⟩ := V20.is); (have HT20 : Hid (TwoU w NN LL FF (mkSS LL) _ _ _ _ _ _ w20) := ((HT16.out.next B18).next B19).next B20)) | (go_at_call 29; (with_reducible show Calls Try.prog 29 _ w20 _); refine (eqSS V20 HT20.out.U HbN.out HbL.out).mono ?_; rintro e w21 ⟨rfl, B21⟩; (have HT21 : Hid (TwoU w NN LL FF (mkSS LL) _ _ _ _ _ _ w21) := HT20.out.next B21)) | (go_at_call 36; (with_reducible show Calls Try.prog 36 _ w21 _); refine (heldSS HT21.out.V HbN.out HbL.out HbC.out).mono ?_; rw [HCN.out]; rintro e w22 ⟨rfl, hw22⟩; subst w22))
    go_ret
    exact ⟨rfl, HT21.out.B⟩

set_option maxRecDepth 100000 in
theorem lifted (os : Os) (started : os.Started) (H : Type) (enc : TypeId × Value → H) :
    ReturnsInHanded {} Try.checked os 8 .any (Rows.fnExactUnpackStructSpec.pre6 enc Try.prog Try.f8 Rows.fnExactUnpackStructRow.domain false) (Rows.fnExactUnpackStructSpec.post enc Try.prog Try.f8 false true false false) := by
  refine returnsInHanded_of_change (C := Try.checked) own started (by kernel_rfl) Try.func8
    (ChangeSpec.witness6 (enc := enc) (C := Try.checked) false ⟨#[], #[.slice none 0 0, .int .i64 0, .slice none 0 0], []⟩ 8 (by kernel_rfl) (by kernel_rfl) (by kernel_rfl) (by kernel_rfl)) ?_
  intro W base args ds gs before hval0 hW hcnd _
  have hval : ∀ (j : Nat) t v, Try.f8.params[j]? = some t → args[j]? = some v → Value.okWide Try.prog W .any base t v := hval0
  have hW' := hW
  obtain ⟨p, q, hA0, hV, rfl, hfz, hnd⟩ := hW
  have hA : DataW.TrodAll enc Try.prog W 0 (fun _ => true) true Try.f8.params.toList args.toList ds p := hA0
  rw [Try.params8] at hA hval
  obtain ⟨v0, vs0, d0, ds0, p0, q0, hargs, rfl, rfl, h0, r0⟩ := trodAll_cons hA
  obtain ⟨v1, vs1, d1, ds1, p1, q1, rfl, rfl, rfl, h1, r1⟩ := trodAll_cons r0
  obtain ⟨v2, vs2, d2, ds2, p2, q2, rfl, rfl, rfl, h2, r2⟩ := trodAll_cons r1
  obtain ⟨rfl, rfl, rfl⟩ := trodAll_nil r2
  obtain rfl : args = #[v0, v1, v2] := by cases args; simp_all
  obtain ⟨rfl, rfl⟩ := trodVars_none hV
  simp only [List.append_nil] at hW'
  have k0 := h0
  have lt0 : ∀ x ∈ p0, x.block < W.heap.size := fun x hx => by have := hW'.lt x (by simp [hx]); simpa using this
  obtain ⟨s0, n0, c0, K0, T0, J0, rfl, m0, A0, kk0, t0, j0⟩ := view_nodes Try.underlying22 Try.underlying60 (by kernel_rfl) rfl rfl rfl (by kernel_rfl) (by kernel_rfl) (by kernel_rfl) Try.underlying9 Try.underlying9 Try.underlying3 (hval 0 22 v0 rfl rfl) h0 lt0
  have arg0 : ∀ (W' : World), Below W.heap.size W W' → DataW.Trod enc Try.prog W' 0 (fun b => decide (b < W.heap.size)) true 22 (.slice s0 n0 c0) d0 p0 := fun W' hn => Below.trod laidOut (by kernel_rfl) (of_decide_eq_true (by kernel_rfl)) k0 hn lt0
  obtain ⟨a1, rfl, rfl, rfl, w1⟩ := open_int Try.underlying3 (hval 1 3 v1 rfl rfl) h1
  have k2 := h2
  have lt2 : ∀ x ∈ p2, x.block < W.heap.size := fun x hx => by have := hW'.lt x (by simp [hx]); simpa using this
  obtain ⟨s2, n2, c2, f2, rfl, m2, A2, z2⟩ := view_ints Try.underlying46 Try.underlying5 (by kernel_rfl) (hval 2 46 v2 rfl rfl) h2 lt2
  have arg2 : ∀ (W' : World), Below W.heap.size W W' → DataW.Trod enc Try.prog W' 0 (fun b => decide (b < W.heap.size)) true 46 (.slice s2 n2 c2) d2 p2 := fun W' hn => Below.trod laidOut (by kernel_rfl) (of_decide_eq_true (by kernel_rfl)) k2 hn lt2
  clear hA0 hval0
  refine (walk W s0 n0 c0 K0 T0 J0 m0 A0 kk0 t0 j0 a1 w1 s2 n2 c2 f2 m2 A2 z2).mono fun e W' ⟨he, hg⟩ => ?_
  subst he
  refine ⟨_, rfl, _, _, _, [], p0 ++ ([] ++ (p2 ++ [])), [], hW', (trodAll_cons_mk (shut_bool Try.underlying4 _) trodAll_mk0), (trodAll_cons_mk (arg0 _ hg) (trodAll_cons_mk (shut_int Try.underlying3 w1) (trodAll_cons_mk (arg2 _ hg) trodAll_mk0))), rfl, hg.frame _, fun h => by cases h⟩
theorem over : Rows.fnExactUnpackStructRow.holds Try.pinned (OpenSpec.ofChange Rows.fnExactUnpackStructSpec) :=
  OpenClaim.holds_of_wide 8 Try.f8 rfl rfl rfl rfl rfl rfl rfl ⟨rfl, rfl, rfl, rfl, rfl⟩ rfl rfl rfl rfl rfl (by kernel_rfl) Try.func8 (by kernel_rfl)
    (of_decide_eq_true (by kernel_rfl)) (by unfold Func.isWrapper; first | (rw [if_pos (by decide +kernel)]; kernel_rfl) | (rw [if_neg (by decide +kernel)]; exact ⟨rfl, rfl⟩))
    (fun os started H enc _ => lifted os started H enc)
end Go.Proofs.Yteakeaclpcgopaa.fnExactUnpackStruct
namespace Go.Proofs.Yteakeaclpcgopaa
theorem unpackstruct_holds : Rows.FnExactUnpackStructSaid := fnExactUnpackStruct.over
#print axioms unpackstruct_holds
end Go.Proofs.Yteakeaclpcgopaa
