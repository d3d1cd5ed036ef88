/- Proved: for every row of fields and every whole number the law FnExactLayoutOf returns true: LayoutOf answers as its model, every spot, the size, the alignment and whether there is one; it writes into no argument, and what it answers owns its memory (it may be written over, and a second call answers as the first); the arguments read afterwards as before; no conditions. -/
import Derived.Test.YteakeaclpcgopaaRows
import Derived.Test.YteakeaclpcgopaaLayS
import Derived.Test.YteakeaclpcgopaaFldArg
import Derived.OpenShut
import Derived.ChangeMaps5
namespace Go.Proofs.Yteakeaclpcgopaa.fnExactLayoutOf
open Go.ChangeShapes Go.WideShapes Go.ChangeAt Go.RowKit
set_option linter.unusedVariables false
theorem own : ownKnob Try.prog.godebug = none := by kernel_rfl
theorem laidOut : laidOutB Try.prog = true := by kernel_rfl

set_option maxHeartbeats 2000000 in
theorem walk (w : World) (s0 : Option Addr) (n0 c0 : Nat) (K0 T0 : Nat → ByteArray) (J0 : Nat → Int) (m0 : n0 ≤ 9223372036854775807) (A0 : Arg3 w s0 n0 K0 T0 J0) (k0 : ∀ i, (K0 i).size ≤ 9223372036854775807) (t0 : ∀ i, (T0 i).size ≤ 9223372036854775807) (j0 : ∀ i, (Lit.int .i64 (J0 i)).wf = true) (a1 : Int) (w1 : (Lit.int .i64 a1).wf = true) :
    Calls Try.prog 5 #[.slice s0 n0 c0, .int .i64 a1] w fun e w' => e = .returned (.bool true) ∧ Below w.heap.size w w' := by
  have HS : Hid (Calls Try.prog 9 #[.slice s0 n0 c0, .int .i64 1048576] w fun r w' => (∃ z : Int, r = .returned (.int .i64 z) ∧ (z < 0 ∨ 0 ≤ z ∧ z ≤ 1048576 ∧ n0 ≤ 1048576 ∧ ∀ i, i < n0 → (K0 i).size ≤ 1048576 ∧ (T0 i).size ≤ 1048576)) ∧ Below w.heap.size w w') := argSz A0 c0 m0 k0 t0
  have HT : Hid (∀ w', Below w.heap.size w w' → n0 ≤ 1048576 → Calls Try.prog 11 #[.slice s0 n0 c0] w' fun r w'' => r = .returned (.slice (some ⟨w'.heap.size, 0, none⟩) n0 n0) ∧ Row3 w'' w'.heap.size n0 K0 T0 J0 ∧ Below w'.heap.size w' w'') := fun w' b hn => argN (A0.next b) c0 hn
  clear A0 k0 t0
  go_enter Try.func5, Try.ntmps5
  go_wp2_with (go_at_call 9; refine HS.out.mono ?_)
  rintro e w1 ⟨⟨z, rfl, hz⟩, B1⟩
  by_cases z0 : z < 0
  · go_wp2
    go_ret
    exact ⟨rfl, B1⟩
  obtain ⟨_, z1, hn, hsz⟩ := hz.resolve_left z0
  have HSZ : Hid (∀ i, i < n0 → (K0 i).size ≤ 1048576) := fun i hi => (hsz i hi).1
  clear hz hsz
  obtain ⟨L, hL⟩ : ∃ L : List TupS, (if okL K0 T0 J0 a1 n0 = true then spotsL K0 T0 J0 a1 n0 else []) = L := ⟨_, rfl⟩
  have hL12 : L.length ≤ 12 := by
    rw [← hL]
    split
    · rename_i hok
      unfold okL goodFs at hok
      simp only [Bool.and_eq_true, decide_eq_true_eq] at hok
      rw [spotsL_len]
      exact hok.1.1.2
    · exact Nat.zero_le _
  obtain ⟨SZ, hSZ⟩ : ∃ x : Int, (if okL K0 T0 J0 a1 n0 = true then laySz T0 J0 a1 n0 else 0) = x := ⟨_, rfl⟩
  obtain ⟨AL, hAL⟩ : ∃ x : Int, (if okL K0 T0 J0 a1 n0 = true then layAl T0 J0 a1 n0 else 0) = x := ⟨_, rfl⟩
  obtain ⟨OK, hOK⟩ : ∃ x : Bool, okL K0 T0 J0 a1 n0 = x := ⟨_, rfl⟩
  have H16 : Hid (∀ a w', Row3 w' a n0 K0 T0 J0 → Calls Try.prog 16 #[.slice (some ⟨a, 0, none⟩) n0 n0, .int .i64 a1] w' (SaysL w' L SZ AL OK)) := fun a w' X => by
    have h := layout16 n0 a K0 T0 J0 a1 w' X hn HSZ.out
    rw [hL, hSZ, hAL, hOK] at h
    exact h
  have H17 : Hid (∀ a w', Row3 w' a n0 K0 T0 J0 → Calls Try.prog 17 #[.slice (some ⟨a, 0, none⟩) n0 n0, .int .i64 a1] w' (SaysL w' L SZ AL OK)) := fun a w' X => by
    have h := layout17 n0 a K0 T0 J0 a1 w' X hn HSZ.out
    rw [hL, hSZ, hAL, hOK] at h
    exact h
  clear hL hSZ hAL hOK
  have HN : Hid (L.length ≤ 12) := hL12
  obtain ⟨N, hN⟩ : ∃ N : Int, ((1 + 4 * L.length : Nat) : Int) = N := ⟨_, rfl⟩
  have nn : ¬ N < 0 := by omega
  have HNN : Hid (((1 + 4 * L.length : Nat) : Int) = N) := hN
  obtain ⟨M, hM⟩ : ∃ N : Int, ((1 + 3 * n0 : Nat) : Int) = N := ⟨_, rfl⟩
  have mm : ¬ M < 0 := by omega
  have HMM : Hid (((1 + 3 * n0 : Nat) : Int) = M) := hM
  clear hN hM hL12
  go_wp2_with (first | (go_at_call 11; refine (HT.out w1 B1 hn).mono ?_; rintro e w2 ⟨rfl, X2, B2⟩) | (go_at_call 16; refine (H16.out w1.heap.size w2 X2).mono ?_; rintro e w3 ⟨u, rfl, U3, gu, B3⟩; obtain ⟨su, lu, cu, rfl⟩ := U3.is; clear gu))
  have B13 : Below w.heap.size w w3 := (B1.trans (B2.mono B1.size)).trans (B3.mono (by have := B1.size; have := B2.size; omega))
  have B14 : Below w.heap.size w (w3.alloc (.cells #[.slice su lu cu, .int .i64 SZ, .int .i64 AL] 34)) := B13.alloc B13.size _
  go_wp2_with (go_at_call 11; refine (HT.out _ B14 hn).mono ?_; rintro e w4 ⟨rfl, X4, B4⟩)
  have X4' : Row3 w4 (w3.heap.size + 1) n0 K0 T0 J0 := by rw [World.size_alloc] at X4; exact X4
  have H17b : Calls Try.prog 17 #[.slice (some ⟨w3.heap.size + 1, 0, none⟩) n0 n0, .int .i64 a1] w4 (SaysL w4 L SZ AL OK) := H17.out _ w4 X4'
  have z4 : w3.heap.size + 1 < w4.heap.size := X4'.hi
  go_wp2_with (first | (go_at_call 17; refine H17b.mono ?_; rintro e w5 ⟨v, rfl, V5, gv, B5⟩; (obtain ⟨sv, lv, cv, rfl⟩ := V5.is); (have z5 := B5.size); (have B45 : Below (w3.heap.size + 1) (w3.alloc (.cells #[.slice su lu cu, .int .i64 SZ, .int .i64 AL] 34)) w5 := by rw [World.size_alloc] at B4; exact B4.trans (B5.mono (by omega))); (have HX5 : Hid (S5 w w3.heap.size w5.heap.size (.slice su lu cu) (.slice sv lv cv) SZ AL L.length (atS0 L) (atS1 L) (atS2 L) (atS3 L) (atS0 L) (atS1 L) (atS2 L) (atS3 L) (w5.alloc (.cells #[.slice sv lv cv, .int .i64 SZ, .int .i64 AL] 34))) := S5.start (cd := SZ) (a := AL) U3 B13 V5 (fun g hg => by have := gv g hg; omega) B45); (have hvx : Hid ((Value.slice sv lv cv).ownBlock ≠ some (w3.heap.size + 1)) := fun e => by have := gv _ e; omega); (have hux : Hid ((Value.slice su lu cu).ownBlock ≠ some (w3.heap.size + 1)) := fun e => by have := U3.lt _ e; omega); (have HR5 : Hid (Row3 (w5.alloc (.cells #[.slice sv lv cv, .int .i64 SZ, .int .i64 AL] 34)) (w3.heap.size + 1) n0 K0 T0 J0) := (X4'.next B5).next (alloc_b (o := .cells #[.slice sv lv cv, .int .i64 SZ, .int .i64 AL] 34))); (have lt35 : w3.heap.size < w5.heap.size := by omega); (have p0 : w5.cell? ⟨w3.heap.size, 0, none⟩ = some (.slice su lu cu) := by rw [B45.cell (p := ⟨w3.heap.size, 0, none⟩) (by show w3.heap.size < w3.heap.size + 1; omega)]; simp); (have p1 : w5.cell? ⟨w3.heap.size, 1, none⟩ = some (.int .i64 SZ) := by rw [B45.cell (p := ⟨w3.heap.size, 1, none⟩) (by show w3.heap.size < w3.heap.size + 1; omega)]; simp); (have p2 : w5.cell? ⟨w3.heap.size, 2, none⟩ = some (.int .i64 AL) := by rw [B45.cell (p := ⟨w3.heap.size, 2, none⟩) (by show w3.heap.size < w3.heap.size + 1; omega)]; simp); (clear X4' H17b gv U3 V5 B5 B4 X4 X2 B2 B3)) | (go_at_call 18; (with_reducible show Calls Try.prog 18 _ (w5.alloc _) _); refine (eq18 HX5.out.V HX5.out.U HN.out SZ AL).mono ?_; rintro e w6 ⟨rfl, B6⟩))
  have HX6 : Hid (S5 _ _ _ _ _ _ _ _ _ _ _ _ _ _ _ _ w6) := HX5.out.next B6
  have HR6 : Hid (Row3 w6 (w3.heap.size + 1) n0 K0 T0 J0) := HR5.out.next B6
  have HB6 : Hid (Below w.heap.size w w6) := HX6.out.below
  go_wp2_with (first | (go_at_call 11; (with_reducible show Calls Try.prog 11 _ w6 _); refine (HT.out w6 HB6.out hn).mono ?_; rintro e w7 ⟨rfl, X7, B7⟩) | (go_at_call 13; refine (eqN (HR6.out.next B7) X7 n0 n0 hn).mono ?_; rintro e w8 ⟨rfl, B8⟩) | (go_at_call 19; refine (markF (RowF.of ((HR6.out.next B7).next B8)) n0 hn).mono ?_; rw [HMM.out]; rintro e w9 ⟨rfl, R9, O9⟩; (have HX9 : Hid (S5 _ _ _ _ _ _ _ _ _ _ _ _ _ _ _ _ w9) := ((HX6.out.next B7).next B8).only O9 (by omega) (by omega) hux.out hvx.out (by have := B13.size; omega)); (obtain ⟨q0, q1, q2, q3, q4, q5⟩ := HX9.out.cells)) | (go_at_call 18; (with_reducible show Calls Try.prog 18 _ w9 _); refine (eq18 HX9.out.V HX9.out.U HN.out SZ AL).mono ?_; rintro e w10 ⟨rfl, B10⟩; (have HX10 : Hid (S5 _ _ _ _ _ _ _ _ _ _ _ _ _ _ _ _ w10) := HX9.out.next B10); (obtain ⟨r0, r1, r2, r3, r4, r5⟩ := HX10.out.cells)) | (go_at_call 20; refine (mark20 HX10.out.V HN.out SZ AL).mono ?_; rw [HNN.out]; rintro e w11 ⟨rfl, V11, g11⟩; (have HX11 : Hid (S5 _ _ _ _ _ _ _ _ _ _ _ _ _ _ _ _ w11) := HX10.out.mark V11 g11); (clear V11 g11); (obtain ⟨s0', s1', s2', s3', s4', s5'⟩ := HX11.out.cells)) | (go_at_call 21; (with_reducible show Calls Try.prog 21 _ w11 _); refine (held21 HX11.out.V HN.out SZ AL).mono ?_; rw [HNN.out]; rintro e w12 ⟨rfl, B12⟩; (have HX12 : Hid (S5 _ _ _ _ _ _ _ _ _ _ _ _ _ _ _ _ w12) := HX11.out.next B12)))
  have HB12 : Hid (Below w.heap.size w w12) := HX12.out.below
  go_wp2_with (first | (go_at_call 11; refine (HT.out w12 HB12.out hn).mono ?_; rintro e w13 ⟨rfl, X13, B13b⟩) | (go_at_call 17; refine (H17.out w12.heap.size w13 X13).mono ?_; rintro e w14 ⟨v2, rfl, V14, gv14, B14b⟩; (obtain ⟨sw, lw, cw, rfl⟩ := V14.is); (have HX14 : Hid (S5 _ _ _ _ _ _ _ _ _ _ _ _ _ _ _ _ w14) := (HX12.out.next B13b).next B14b); (obtain ⟨t0', t1', t2', t3', t4', t5'⟩ := HX14.out.cells); (have lt7 : w3.heap.size < w14.heap.size := (Array.getElem?_eq_some_iff.1 HX14.out.b3).1); (have lt8 : w5.heap.size < w14.heap.size := (Array.getElem?_eq_some_iff.1 HX14.out.b4).1)) | (go_at_call 18; (with_reducible show Calls Try.prog 18 _ (w14.alloc _) _); refine (eq18 (V14.next alloc_b) (HX14.out.next alloc_b).U HN.out SZ AL).mono ?_; rintro e w15 ⟨rfl, B15⟩; (have HX15 : Hid (S5 _ _ _ _ _ _ _ _ _ _ _ _ _ _ _ _ w15) := (HX14.out.next (alloc_b (o := .cells #[.slice sw lw cw, .int .i64 SZ, .int .i64 AL] 34))).next B15); (obtain ⟨k0', k1', k2', k3', k4', k5'⟩ := HX15.out.cells)) | (go_at_call 21; (with_reducible show Calls Try.prog 21 _ w15 _); refine (held21 HX15.out.V HN.out SZ AL).mono ?_; rw [HNN.out]; rintro e w16 ⟨rfl, B16⟩))
  go_ret
  exact ⟨rfl, (HX15.out.next B16).below⟩

set_option maxRecDepth 100000 in
theorem lifted (os : Os) (started : os.Started) (H : Type) (enc : TypeId × Value → H) :
    ReturnsInHanded {} Try.checked os 5 .any (Rows.fnExactLayoutOfSpec.pre6 enc Try.prog Try.f5 Rows.fnExactLayoutOfRow.domain false) (Rows.fnExactLayoutOfSpec.post enc Try.prog Try.f5 false true false false) := by
  refine returnsInHanded_of_change (C := Try.checked) own started (by kernel_rfl) Try.func5
    (ChangeSpec.witness6 (enc := enc) (C := Try.checked) false ⟨#[], #[.slice none 0 0, .int .i64 0], []⟩ 8 (by kernel_rfl) (by kernel_rfl) (by kernel_rfl) (by kernel_rfl)) ?_
  intro W base args ds gs before hval0 hW hcnd _
  have hval : ∀ (j : Nat) t v, Try.f5.params[j]? = some t → args[j]? = some v → Value.okWide Try.prog W .any base t v := hval0
  have hW' := hW
  obtain ⟨p, q, hA0, hV, rfl, hfz, hnd⟩ := hW
  have hA : DataW.TrodAll enc Try.prog W 0 (fun _ => true) true Try.f5.params.toList args.toList ds p := hA0
  rw [Try.params5] at hA hval
  obtain ⟨v0, vs0, d0, ds0, p0, q0, hargs, rfl, rfl, h0, r0⟩ := trodAll_cons hA
  obtain ⟨v1, vs1, d1, ds1, p1, q1, rfl, rfl, rfl, h1, r1⟩ := trodAll_cons r0
  obtain ⟨rfl, rfl, rfl⟩ := trodAll_nil r1
  obtain rfl : args = #[v0, v1] := by cases args; simp_all
  obtain ⟨rfl, rfl⟩ := trodVars_none hV
  simp only [List.append_nil] at hW'
  have k0 := h0
  have lt0 : ∀ x ∈ p0, x.block < W.heap.size := fun x hx => by have := hW'.lt x (by simp [hx]); simpa using this
  obtain ⟨s0, n0, c0, K0, T0, J0, rfl, m0, A0, kk0, t0, j0⟩ := view_nodes Try.underlying22 Try.underlying60 (by kernel_rfl) rfl rfl rfl (by kernel_rfl) (by kernel_rfl) (by kernel_rfl) Try.underlying9 Try.underlying9 Try.underlying3 (hval 0 22 v0 rfl rfl) h0 lt0
  have arg0 : ∀ (W' : World), Below W.heap.size W W' → DataW.Trod enc Try.prog W' 0 (fun b => decide (b < W.heap.size)) true 22 (.slice s0 n0 c0) d0 p0 := fun W' hn => Below.trod laidOut (by kernel_rfl) (of_decide_eq_true (by kernel_rfl)) k0 hn lt0
  obtain ⟨a1, rfl, rfl, rfl, w1⟩ := open_int Try.underlying3 (hval 1 3 v1 rfl rfl) h1
  clear hA0 hval0
  refine (walk W s0 n0 c0 K0 T0 J0 m0 A0 kk0 t0 j0 a1 w1).mono fun e W' ⟨he, hg⟩ => ?_
  subst he
  refine ⟨_, rfl, _, _, _, [], p0 ++ ([] ++ []), [], hW', (trodAll_cons_mk (shut_bool Try.underlying4 _) trodAll_mk0), (trodAll_cons_mk (arg0 _ hg) (trodAll_cons_mk (shut_int Try.underlying3 w1) trodAll_mk0)), rfl, hg.frame _, fun h => by cases h⟩
theorem over : Rows.fnExactLayoutOfRow.holds Try.pinned (OpenSpec.ofChange Rows.fnExactLayoutOfSpec) :=
  OpenClaim.holds_of_wide 5 Try.f5 rfl rfl rfl rfl rfl rfl rfl ⟨rfl, rfl, rfl, rfl, rfl⟩ rfl rfl rfl rfl rfl (by kernel_rfl) Try.func5 (by kernel_rfl)
    (of_decide_eq_true (by kernel_rfl)) (by unfold Func.isWrapper; first | (rw [if_pos (by decide +kernel)]; kernel_rfl) | (rw [if_neg (by decide +kernel)]; exact ⟨rfl, rfl⟩))
    (fun os started H enc _ => lifted os started H enc)
end Go.Proofs.Yteakeaclpcgopaa.fnExactLayoutOf
namespace Go.Proofs.Yteakeaclpcgopaa
theorem layoutof_holds : Rows.FnExactLayoutOfSaid := fnExactLayoutOf.over
#print axioms layoutof_holds
end Go.Proofs.Yteakeaclpcgopaa
