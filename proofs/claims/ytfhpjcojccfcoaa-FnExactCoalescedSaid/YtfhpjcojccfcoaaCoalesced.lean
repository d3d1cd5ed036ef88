/- Coalesced answers as its model at every row of places, every size and line; it writes into no argument, and its answer owns its memory. No conditions. -/
import Derived.Test.YtfhpjcojccfcoaaRows
import Derived.Test.YtfhpjcojccfcoaaCl
import Derived.Test.YtfhpjcojccfcoaaNr
namespace Go.Proofs.Ytfhpjcojccfcoaa.fnExactCoalesced
open Go.ChangeShapes Go.WideShapes Go.ChangeAt Go.RowKit
set_option linter.unusedVariables false
theorem own : ownKnob Try.prog.godebug = none := by kernel_rfl
theorem laidOut : laidOutB Try.prog = true := by kernel_rfl

set_option maxHeartbeats 2000000 in
theorem walk (w : World) (s0 : Option Addr) (n0 c0 : Nat) (f0 : Nat → Int) (m0 : n0 ≤ 9223372036854775807) (A0 : Arg w s0 n0 (fun i => .int .i64 (f0 i))) (z0 : ∀ i, (Lit.int .i64 (f0 i)).wf = true) (a1 : Int) (w1 : (Lit.int .i64 a1).wf = true) (a2 : Int) (w2 : (Lit.int .i64 a2).wf = true) :
    Calls Try.prog 5 #[.slice s0 n0 c0, .int .i64 a1, .int .i64 a2] w fun e w' => e = .returned (.bool true) ∧ Below w.heap.size w w' := by
  by_cases big : 1048576 < n0
  · have b1 : (1048576 : Int) < (n0 : Int) := by omega
    go_enter Try.func5, Try.ntmps5
    go_wp2
    go_ret
    exact ⟨rfl, Below.refl _ _⟩
  have b1 : ¬ (1048576 : Int) < (n0 : Int) := by omega
  have hn0 : n0 ≤ 1048576 := by omega
  have HT : Hid (∀ w', Below w.heap.size w w' → Calls Try.prog 19 #[.slice s0 n0 c0] w' fun r w'' => r = .returned (.slice (some ⟨w'.heap.size, 0, none⟩) n0 n0) ∧ Own w'' w'.heap.size n0 (fun i => .int .i64 (f0 i)) ∧ Below w'.heap.size w' w'') := fun w' b => toN27 (A0.next b) c0 hn0
  have HE : Hid (∀ u v w', ARow w' u (fl f0 n0) → ARow w' v (fl f0 n0) → Calls Try.prog 20 #[u, v] w' fun r w'' => r = .returned (.bool true) ∧ Below w'.heap.size w' w'') := fun u v w' a b => (eqA25 (by rw [fl_len]; exact hn0) a b).mono fun e w'' ⟨h1, k, h2⟩ => ⟨h1, by rw [h2]; exact below_drewN (Below.refl _ _) k⟩
  have HL0 : Hid ((coalL (fl f0 n0) a1 a2).length ≤ 1048576) := by
    show _ ≤ _
    unfold coalL
    split
    · exact Nat.le_trans (srt_len _) (by rw [linesL_len, fl_len]; exact hn0)
    · simp
  have HM : Hid (∀ g v, Own v g n0 (fun i => .int .i64 (f0 i)) → Calls Try.prog 17 #[.slice (some ⟨g, 0, none⟩) n0 n0, .int .i64 a1, .int .i64 a2] v fun e w' => ∃ u, e = .returned (.tuple #[u, .bool (coalB (fl f0 n0) a1 a2)]) ∧ Ri v.heap.size w' u (coalL (fl f0 n0) a1 a2) ∧ Below v.heap.size v w') := fun g v O => mcoal _ _ a1 a2 v (own_arow O)
  have HP : Hid (∀ w' v s, ARow v s (fl f0 n0) → Below w.heap.size w v → w' = v → Calls Try.prog 16 #[s, .int .i64 a1, .int .i64 a2] v fun e w' => ∃ u, e = .returned (.tuple #[u, .bool (coalB (fl f0 n0) a1 a2)]) ∧ IOwn v.heap.size w' u (coalL (fl f0 n0) a1 a2) ∧ Below v.heap.size v w') := fun w' v s A _ _ => pcoal _ _ a1 a2 v A (by rw [fl_len]; exact hn0)
  generalize coalL (fl f0 n0) a1 a2 = L at HM HP HL0
  generalize coalB (fl f0 n0) a1 a2 = BB at HM HP
  clear A0 z0 w1
  cases BB
  all_goals
    go_enter Try.func5, Try.ntmps5
    go_wp2_with (first | (go_at_call 19; (with_reducible show Calls Try.prog 19 _ w _); refine (HT.out w (Below.refl _ _)).mono ?_; rintro e w2 ⟨rfl, X2, B2⟩) | (go_at_call 17; refine (HM.out _ w2 X2).mono ?_; rintro e w3 ⟨u0, rfl, R0, B3⟩))
    have B03 : Below w.heap.size w w3 := B2.trans (B3.mono B2.size)
    have U0 : Hid (NRow w3 w2.heap.size w3.heap.size u0 (fun i => L.getD i 0) L.length) := nrow_of R0
    clear X2 B2 B3 R0
    go_wp2_with (first | (go_at_call 19; (with_reducible show Calls Try.prog 19 _ w3 _); refine (HT.out w3 B03).mono ?_; rintro e w4 ⟨rfl, X4, B4⟩) | (go_at_call 16; refine (HP.out w4 w4 _ (own_arow X4) (B03.trans (B4.mono B03.size)) rfl).mono ?_; rintro e w5 ⟨u1, rfl, R1, B5⟩))
    have B35 : Below w3.heap.size w3 w5 := B4.trans (B5.mono B4.size)
    have B05 : Below w.heap.size w w5 := B03.trans (B35.mono B03.size)
    have X5 : Hid (Own w5 w3.heap.size n0 (fun i => .int .i64 (f0 i))) := X4.next B5
    have U05 : Hid (NRow w5 w2.heap.size w3.heap.size u0 (fun i => L.getD i 0) L.length) := U0.out.next B35
    have U15 : Hid (NRow w5 w4.heap.size w5.heap.size u1 (fun i => L.getD i 0) L.length) := nrow_own R1
    have H34 : Hid (w3.heap.size < w4.heap.size ∧ w.heap.size ≤ w3.heap.size) := ⟨X4.hi, B03.size⟩
    have H45 : Hid (w3.heap.size ≤ w5.heap.size) := B35.size
    clear X4 B4 B5 R1 U0 B35
    go_wp2_with (go_at_call 20; (with_reducible show Calls Try.prog 20 _ w5 _); refine (eqNR U15.out U05.out HL0.out).mono ?_; rintro e w6 ⟨rfl, B6⟩)
    have B06 : Below w.heap.size w w6 := B05.trans (B6.mono B05.size)
    have X6 : Hid (Own w6 w3.heap.size n0 (fun i => .int .i64 (f0 i))) := X5.out.next B6
    have U06 : Hid (NRow w6 w2.heap.size w3.heap.size u0 (fun i => L.getD i 0) L.length) := U05.out.next B6
    have U16 : Hid (NRow w6 w4.heap.size w5.heap.size u1 (fun i => L.getD i 0) L.length) := U15.out.next B6
    clear X5 U05 U15 B05 B6 B03
    go_wp2_with (first | (go_at_call 19; (with_reducible show Calls Try.prog 19 _ w6 _); refine (HT.out w6 B06).mono ?_; rintro e w7 ⟨rfl, X7, B7⟩) | (go_at_call 20; (with_reducible show Calls Try.prog 20 _ w7 _); refine (HE.out _ _ w7 (own_arow (X6.out.next B7)) (own_arow X7)).mono ?_; rintro e w8 ⟨rfl, B8⟩))
    have B68 : Below w6.heap.size w6 w8 := B7.trans (B8.mono B7.size)
    have B08 : Below w.heap.size w w8 := B06.trans (B68.mono B06.size)
    have X8 : Hid (Own w8 w3.heap.size n0 (fun i => .int .i64 (f0 i))) := X6.out.next B68
    have U08 : Hid (NRow w8 w2.heap.size w3.heap.size u0 (fun i => L.getD i 0) L.length) := U06.out.next B68
    have U18 : Hid (NRow w8 w4.heap.size w5.heap.size u1 (fun i => L.getD i 0) L.length) := U16.out.next B68
    clear X6 U06 U16 B06 B7 B8 X7 B68
    have hmk := markN X8.out n0 1 hn0 (by omega)
    have hs0 : ¬ ((1 + n0 : Nat) : Int) < 0 := by omega
    generalize ((1 + n0 : Nat) : Int) = sx at hmk hs0
    go_wp2_with (go_at_call 21; (with_reducible show Calls Try.prog 21 _ w8 _); refine hmk.mono ?_; rintro e w9 ⟨rfl, O9, K9⟩)
    have K9b : Below w3.heap.size w8 w9 := K9.below (Nat.le_refl _) (Nat.le_of_lt X8.out.hi)
    have B09 : Below w.heap.size w w9 := B08.trans (K9b.mono H34.out.2)
    have U09 : Hid (NRow w9 w2.heap.size w3.heap.size u0 (fun i => L.getD i 0) L.length) := U08.out.but K9 (Nat.le_refl _)
    have U19 : Hid (NRow w9 w4.heap.size w5.heap.size u1 (fun i => L.getD i 0) L.length) := by
      rcases U18.out with h | ⟨g, c, hv, h1, h2, O⟩
      · exact Or.inl h
      · exact Or.inr ⟨g, c, hv, h1, h2, O.but K9 (by have := H34.out.1; omega)⟩
    have HS9 : Hid (w3.heap.size ≤ w9.heap.size) := Nat.le_trans (Nat.le_of_lt X8.out.hi) K9.size
    clear O9 K9 K9b X8 U08 U18 hmk B08
    go_wp2_with (go_at_call 20; (with_reducible show Calls Try.prog 20 _ w9 _); refine (eqNR U19.out U09.out HL0.out).mono ?_; rintro e w10 ⟨rfl, B10⟩)
    have B010 : Below w.heap.size w w10 := B09.trans (B10.mono B09.size)
    have HSZ : Hid (w3.heap.size ≤ w10.heap.size) := Nat.le_trans HS9.out B10.size
    have U010 : Hid (NRow w10 w2.heap.size w3.heap.size u0 (fun i => L.getD i 0) L.length) := U09.out.next B10
    have U110 : Hid (NRow w10 w4.heap.size w5.heap.size u1 (fun i => L.getD i 0) L.length) := U19.out.next B10
    clear U09 U19 B09 B10
    have hm1 := markNR U110.out HL0.out
    have H22 : Hid (∀ v, NRow v w4.heap.size w5.heap.size u1 (fun i => ((1 + i : Nat) : Int)) L.length → Calls Try.prog 22 #[u1, .int .i64 1] v fun r w' => r = .returned (.int .i64 ((1 + L.length : Nat) : Int)) ∧ w' = v) := fun v U => heldNR U HL0.out
    have hs1 : ¬ ((1 + L.length : Nat) : Int) < 0 := by omega
    generalize ((1 + L.length : Nat) : Int) = sy at hm1 H22 hs1
    go_wp2_with (go_at_call 21; (with_reducible show Calls Try.prog 21 _ w10 _); refine hm1.mono ?_; rintro e w11 ⟨rfl, M1, p, hp, K11⟩)
    have U011 : Hid (NRow w11 w2.heap.size w3.heap.size u0 (fun i => L.getD i 0) L.length) := U010.out.but K11 (by have := H34.out; omega)
    have K11b : Below w3.heap.size w10 w11 := K11.below (by have := H34.out; omega) HSZ.out
    have B011 : Below w.heap.size w w11 := B010.trans (K11b.mono H34.out.2)
    clear K11 K11b U010 U110 hm1 B010
    go_wp2_with (go_at_call 22; (with_reducible show Calls Try.prog 22 _ w11 _); refine (H22.out w11 M1).mono ?_; rintro e w12 ⟨rfl, hw⟩; subst w12)
    go_wp2_with (first | (go_at_call 19; (with_reducible show Calls Try.prog 19 _ w11 _); refine (HT.out w11 B011).mono ?_; rintro e w13 ⟨rfl, X13, B13⟩) | (go_at_call 16; refine (HP.out w13 w13 _ (own_arow X13) (B011.trans (B13.mono B011.size)) rfl).mono ?_; rintro e w14 ⟨u2, rfl, R2, B14⟩))
    have B1114 : Below w11.heap.size w11 w14 := B13.trans (B14.mono B13.size)
    have B014 : Below w.heap.size w w14 := B011.trans (B1114.mono B011.size)
    have U014 : Hid (NRow w14 w2.heap.size w3.heap.size u0 (fun i => L.getD i 0) L.length) := U011.out.next B1114
    have M14 : Hid (NRow w14 w4.heap.size w5.heap.size u1 (fun i => ((1 + i : Nat) : Int)) L.length) := M1.next B1114
    have U214 : Hid (NRow w14 w13.heap.size w14.heap.size u2 (fun i => L.getD i 0) L.length) := nrow_own R2
    clear B13 B14 R2 M1 X13 U011 B1114
    go_wp2_with (first | (go_at_call 20; (with_reducible show Calls Try.prog 20 _ w14 _); refine (eqNR U214.out U014.out HL0.out).mono ?_; rintro e w15 ⟨rfl, B15⟩) | (go_at_call 22; refine (H22.out w15 (M14.out.next B15)).mono ?_; rintro e w16 ⟨rfl, hw⟩; subst w16))
    go_ret
    exact ⟨rfl, B014.trans (B15.mono B014.size)⟩

set_option maxRecDepth 100000 in
theorem lifted (os : Os) (started : os.Started) (H : Type) (enc : TypeId × Value → H) :
    ReturnsInHanded {} Try.checked os 5 .any (Rows.fnExactCoalescedSpec.pre6 enc Try.prog Try.f5 Rows.fnExactCoalescedRow.domain false) (Rows.fnExactCoalescedSpec.post enc Try.prog Try.f5 false true false false) := by
  refine returnsInHanded_of_change (C := Try.checked) own started (by kernel_rfl) Try.func5
    (ChangeSpec.witness6 (enc := enc) (C := Try.checked) false ⟨#[], #[.slice none 0 0, .int .i64 0, .int .i64 0], []⟩ 8 (by kernel_rfl) (by kernel_rfl) (by kernel_rfl) (by kernel_rfl)) ?_
  intro W base args ds gs before hval0 hW hcnd _
  have hval : ∀ (j : Nat) t v, Try.f5.params[j]? = some t → args[j]? = some v → Value.okWide Try.prog W .any base t v := hval0
  have hW' := hW
  obtain ⟨p, q, hA0, hV, rfl, hfz, hnd⟩ := hW
  have hA : DataW.TrodAll enc Try.prog W 0 (fun _ => true) true Try.f5.params.toList args.toList ds p := hA0
  rw [Try.params5] at hA hval
  obtain ⟨v0, vs0, d0, ds0, p0, q0, hargs, rfl, rfl, h0, r0⟩ := trodAll_cons hA
  obtain ⟨v1, vs1, d1, ds1, p1, q1, rfl, rfl, rfl, h1, r1⟩ := trodAll_cons r0
  obtain ⟨v2, vs2, d2, ds2, p2, q2, rfl, rfl, rfl, h2, r2⟩ := trodAll_cons r1
  obtain ⟨rfl, rfl, rfl⟩ := trodAll_nil r2
  obtain rfl : args = #[v0, v1, v2] := by cases args; simp_all
  obtain ⟨rfl, rfl⟩ := trodVars_none hV
  simp only [List.append_nil] at hW'
  have k0 := h0
  have lt0 : ∀ x ∈ p0, x.block < W.heap.size := fun x hx => by have := hW'.lt x (by simp [hx]); simpa using this
  obtain ⟨s0, n0, c0, f0, rfl, m0, A0, z0⟩ := view_ints Try.underlying23 Try.underlying3 (by kernel_rfl) (hval 0 23 v0 rfl rfl) h0 lt0
  have arg0 : ∀ (W' : World), Below W.heap.size W W' → DataW.Trod enc Try.prog W' 0 (fun b => decide (b < W.heap.size)) true 23 (.slice s0 n0 c0) d0 p0 := fun W' hn => Below.trod laidOut (by kernel_rfl) (of_decide_eq_true (by kernel_rfl)) k0 hn lt0
  obtain ⟨a1, rfl, rfl, rfl, w1⟩ := open_int Try.underlying3 (hval 1 3 v1 rfl rfl) h1
  obtain ⟨a2, rfl, rfl, rfl, w2⟩ := open_int Try.underlying3 (hval 2 3 v2 rfl rfl) h2
  clear hA0 hval0
  refine (walk W s0 n0 c0 f0 m0 A0 z0 a1 w1 a2 w2).mono fun e W' ⟨he, hg⟩ => ?_
  subst he
  refine ⟨_, rfl, _, _, _, [], p0 ++ ([] ++ ([] ++ [])), [], hW', (trodAll_cons_mk (shut_bool Try.underlying4 _) trodAll_mk0), (trodAll_cons_mk (arg0 _ hg) (trodAll_cons_mk (shut_int Try.underlying3 w1) (trodAll_cons_mk (shut_int Try.underlying3 w2) trodAll_mk0))), rfl, hg.frame _, fun h => by cases h⟩
theorem over : Rows.fnExactCoalescedRow.holds Try.pinned (OpenSpec.ofChange Rows.fnExactCoalescedSpec) :=
  OpenClaim.holds_of_wide 5 Try.f5 rfl rfl rfl rfl rfl rfl rfl ⟨rfl, rfl, rfl, rfl, rfl⟩ rfl rfl rfl rfl rfl (by kernel_rfl) Try.func5 (by kernel_rfl)
    (of_decide_eq_true (by kernel_rfl)) (by unfold Func.isWrapper; first | (rw [if_pos (by decide +kernel)]; kernel_rfl) | (rw [if_neg (by decide +kernel)]; exact ⟨rfl, rfl⟩))
    (fun os started H enc _ => lifted os started H enc)
end Go.Proofs.Ytfhpjcojccfcoaa.fnExactCoalesced
namespace Go.Proofs.Ytfhpjcojccfcoaa
theorem coalesced : Rows.FnExactCoalescedSaid := fnExactCoalesced.over
#print axioms coalesced
end Go.Proofs.Ytfhpjcojccfcoaa
