/- NewCache answers as its model at every four whole numbers, and its answer owns its memory. No conditions. -/
import Derived.Test.YtfhpjcojccfcoaaRows
import Derived.Test.YtfhpjcojccfcoaaLc
namespace Go.Proofs.Ytfhpjcojccfcoaa.fnExactNewCache
open Go.ChangeShapes Go.WideShapes Go.ChangeAt Go.RowKit
set_option linter.unusedVariables false
theorem own : ownKnob Try.prog.godebug = none := by kernel_rfl
theorem laidOut : laidOutB Try.prog = true := by kernel_rfl
theorem new_both (s y l p : Int) : ∃ (A0 A1 A2 A3 : Int) (n : Nat) (NB : Bool), n ≤ 64 ∧ (∀ w, Calls Try.prog 23 #[.int .i64 s, .int .i64 y, .int .i64 l, .int .i64 p] w fun e w' => ∃ a k, e = .returned (.tuple #[.agg #[.int .i64 A0, .int .i64 A1, .int .i64 A2, .int .i64 A3, .slice a n k, .int .i64 0], .bool NB]) ∧ Ax w.heap.size w'.heap.size w' (.slice a n k) n (fun _ => []) ∧ Below w.heap.size w w') ∧ (∀ w, Calls Try.prog 24 #[.int .i64 s, .int .i64 y, .int .i64 l, .int .i64 p] w fun e w' => ∃ a k, e = .returned (.tuple #[.agg #[.int .i64 A0, .int .i64 A1, .int .i64 A2, .int .i64 A3, .slice a n k, .int .i64 0], .bool NB]) ∧ Ax w.heap.size w'.heap.size w' (.slice a n k) n (fun _ => []) ∧ Below w.heap.size w w') := by
  cases hb : newB s y l p
  · refine ⟨0, 0, 0, 0, 0, false, Nat.zero_le _, fun w => ?_, fun w => ?_⟩
    · refine (mnew s y l p w).mono ?_
      rintro e w' ⟨u, rfl, _, B⟩
      refine ⟨none, 0, by unfold newV; rw [hb]; rfl, ax_none _ _ _ _, B⟩
    · refine (pnew s y l p w).mono ?_
      rintro e w' ⟨u, rfl, _, B⟩
      refine ⟨none, 0, by unfold newV; rw [hb]; rfl, ax_none _ _ _ _, B⟩
  · obtain ⟨hs, _⟩ := newB_iff hb
    have h1 := (pwB_iff hs).1
    have h2 := (pwB_iff hs).2
    refine ⟨s, y, l, p, s.toNat, true, by omega, fun w => ?_, fun w => ?_⟩
    · refine (mnew s y l p w).mono ?_
      rintro e w' ⟨u, rfl, h, B⟩
      obtain ⟨m, g, rfl, rfl, hg, O⟩ := h hb
      rw [Int.toNat_natCast]
      exact ⟨_, _, by unfold newV; rw [hb]; rfl, ax_new O hg O.hi m, B⟩
    · refine (pnew s y l p w).mono ?_
      rintro e w' ⟨u, rfl, h, B⟩
      obtain ⟨m, g, rfl, rfl, hg, O⟩ := h hb
      rw [Int.toNat_natCast]
      exact ⟨_, _, by unfold newV; rw [hb]; rfl, ax_new O hg O.hi m, B⟩
theorem tot_none (n : Nat) : tot (fun _ => []) n = 0 := by
  induction n with
  | zero => rfl
  | succ n ih => show tot (fun _ => []) n + 0 = 0; rw [ih]

set_option maxHeartbeats 2000000 in
theorem walk (w : World) (a0 : Int) (w0 : (Lit.int .i64 a0).wf = true) (a1 : Int) (w1 : (Lit.int .i64 a1).wf = true) (a2 : Int) (w2 : (Lit.int .i64 a2).wf = true) (a3 : Int) (w3 : (Lit.int .i64 a3).wf = true) :
    Calls Try.prog 6 #[.int .i64 a0, .int .i64 a1, .int .i64 a2, .int .i64 a3] w fun e w' => e = .returned (.bool true) ∧ Below w.heap.size w w' := by
  obtain ⟨A0, A1, A2, A3, n, NB, hn64, hM, hP⟩ := new_both a0 a1 a2 a3
  have HM := Hid.mk hM
  have HP := Hid.mk hP
  have hn : n ≤ 1048576 := by omega
  have HL : Hid (∀ x, x < n → ((fun _ => []) x : List Int).length ≤ 1048576) := fun x _ => by simp
  have HT : Hid (1 + tot (fun _ => []) n ≤ 9000000) := by show _ ≤ _; rw [tot_none]; decide
  have ht1 : ((1 + tot (fun _ => []) n : Nat) : Int) = 1 := by rw [tot_none]; rfl
  have HT1 := Hid.mk ht1
  clear hM hP w0 w1 w2 w3 ht1
  cases NB
  all_goals
    go_enter Try.func6, Try.ntmps6
    go_wp2_with (go_at_call 23; refine (HM.out w).mono ?_; rintro e w1 ⟨a0, k0, rfl, X0, B1⟩)
    have C0 := C6.new w1 42 (.int .i64 A0) (.int .i64 A1) (.int .i64 A2) (.int .i64 A3) (.slice a0 n k0) (.int .i64 0)
    have X02 := X0.next (alloc_b (o := (.cells #[.int .i64 A0, .int .i64 A1, .int .i64 A2, .int .i64 A3, (.slice a0 n k0), .int .i64 0] 42)))
    have B02 : Below w.heap.size w (w1.alloc (.cells #[.int .i64 A0, .int .i64 A1, .int .i64 A2, .int .i64 A3, (.slice a0 n k0), .int .i64 0] 42)) := B1.alloc B1.size _
    have hb0 : Hid (w.heap.size ≤ w1.heap.size) := B1.size
    obtain ⟨W2, hW2⟩ : ∃ W, w1.alloc (.cells #[.int .i64 A0, .int .i64 A1, .int .i64 A2, .int .i64 A3, (.slice a0 n k0), .int .i64 0] 42) = W := ⟨_, rfl⟩
    have hs2 : Hid (W2.heap.size = w1.heap.size + 1) := by show _ = _; rw [← hW2, World.size_alloc]
    rw [hW2] at C0 X02 B02 ⊢
    clear hW2 X0 B1
    go_wp2_with (go_at_call 24; (with_reducible show Calls Try.prog 24 _ W2 _); refine (HP.out W2).mono ?_; rintro e w3 ⟨a1, k1, rfl, X1, B3⟩; (have C3 := C0.next B3); (have q0 := C3.c0); (have q1 := C3.c1); (have q2 := C3.c2); (have q3 := C3.c3); (have q4 := C3.c4); (have q5 := C3.c5); (have qh := C3.hi))
    have D0 := C6.new w3 42 (.int .i64 A0) (.int .i64 A1) (.int .i64 A2) (.int .i64 A3) (.slice a1 n k1) (.int .i64 0)
    have C4 := C3.next (alloc_b (o := (.cells #[.int .i64 A0, .int .i64 A1, .int .i64 A2, .int .i64 A3, (.slice a1 n k1), .int .i64 0] 42)))
    have X04 := (X02.next B3).next (alloc_b (o := (.cells #[.int .i64 A0, .int .i64 A1, .int .i64 A2, .int .i64 A3, (.slice a1 n k1), .int .i64 0] 42)))
    have X14 := X1.next (alloc_b (o := (.cells #[.int .i64 A0, .int .i64 A1, .int .i64 A2, .int .i64 A3, (.slice a1 n k1), .int .i64 0] 42)))
    have B04 : Below w.heap.size w (w3.alloc (.cells #[.int .i64 A0, .int .i64 A1, .int .i64 A2, .int .i64 A3, (.slice a1 n k1), .int .i64 0] 42)) := (B02.trans (B3.mono B02.size)).alloc (Nat.le_trans B02.size B3.size) _
    have hb3 : Hid (W2.heap.size ≤ w3.heap.size) := B3.size
    obtain ⟨W4, hW4⟩ : ∃ W, w3.alloc (.cells #[.int .i64 A0, .int .i64 A1, .int .i64 A2, .int .i64 A3, (.slice a1 n k1), .int .i64 0] 42) = W := ⟨_, rfl⟩
    have hs4 : Hid (W4.heap.size = w3.heap.size + 1) := by show _ = _; rw [← hW4, World.size_alloc]
    rw [hW4] at D0 C4 X04 X14 B04 ⊢
    clear hW4 X02 X1 B3 C3 C0 B02 q0 q1 q2 q3 q4 q5 qh
    go_wp2_with (go_at_call 25; (with_reducible show Calls Try.prog 25 _ W4 _); refine (eqcache A0 A1 A2 A3 0 (.slice a1 n k1) (.slice a0 n k0) n (fun _ => []) W4 X14.arows X04.arows hn HL.out).mono ?_; rintro e w5 ⟨rfl, B5⟩; (have D5 := D0.next B5); (have r0 := D5.c0); (have r1 := D5.c1); (have r2 := D5.c2); (have r3 := D5.c3); (have r4 := D5.c4); (have r5 := D5.c5); (have rh := D5.hi))
    have C5 := C4.next B5
    have X05 := X04.next B5
    have X15 := X14.next B5
    have B05 : Below w.heap.size w w5 := B04.trans (B5.mono B04.size)
    have hs5 : Hid (W4.heap.size ≤ w5.heap.size) := B5.size
    clear C4 X04 X14 B04 B5 D0 r0 r1 r2 r3 r4 r5 rh
    have h26 := markcache A0 A1 A2 A3 0 X15 (by have := hs4.out; have := hs5.out; omega) hn 1 HT.out HL.out
    rw [HT1.out] at h26
    go_wp2_with (go_at_call 26; refine h26.mono ?_; rintro e w6 ⟨rfl, M6, T6⟩; (have D6 := D5.block (T6.block _ D5.hi (Or.inr (Nat.le_refl _))) T6.size); (have s0 := D6.c0); (have s1 := D6.c1); (have s2 := D6.c2); (have s3 := D6.c3); (have s4 := D6.c4); (have s5 := D6.c5); (have sh := D6.hi))
    have C6' := C5.block (T6.block _ C5.hi (Or.inl (by have := hs2.out; omega))) T6.size
    have X06 := X05.btw T6 (Or.inl (by have := hs2.out; omega))
    have B06 : Below w.heap.size w w6 := B05.trans ((T6.below (by have := C5.hi; have := hs2.out; omega)).mono (by have := hb0.out; have := hs2.out; omega))
    clear X05 X15 C5 D5 B05 T6 h26 s0 s1 s2 s3 s4 s5 sh
    have h27 := heldcache A0 A1 A2 A3 0 1 M6 hn HT.out HL.out
    rw [HT1.out] at h27
    go_wp2_with (go_at_call 27; refine h27.mono ?_; rintro e w7 ⟨rfl, B7⟩)
    have M7 := M6.next B7
    have D7 := D6.next B7
    have C7 := C6'.next B7
    have X07 := X06.next B7
    have B07 : Below w.heap.size w w7 := B06.trans (B7.mono B06.size)
    clear M6 D6 C6' X06 B06 B7 h27
    go_wp2_with (go_at_call 24; (with_reducible show Calls Try.prog 24 _ w7 _); refine (HP.out w7).mono ?_; rintro e w8 ⟨a2, k2, rfl, X2, B8⟩; (have C8 := C7.next B8); (have t0 := C8.c0); (have t1 := C8.c1); (have t2 := C8.c2); (have t3 := C8.c3); (have t4 := C8.c4); (have t5 := C8.c5); (have th := C8.hi))
    have M9 := (M7.next B8).next (alloc_b (o := (.cells #[.int .i64 A0, .int .i64 A1, .int .i64 A2, .int .i64 A3, (.slice a2 n k2), .int .i64 0] 42)))
    have D9 := (D7.next B8).next (alloc_b (o := (.cells #[.int .i64 A0, .int .i64 A1, .int .i64 A2, .int .i64 A3, (.slice a2 n k2), .int .i64 0] 42)))
    have X09 := (X07.next B8).next (alloc_b (o := (.cells #[.int .i64 A0, .int .i64 A1, .int .i64 A2, .int .i64 A3, (.slice a2 n k2), .int .i64 0] 42)))
    have X29 := X2.next (alloc_b (o := (.cells #[.int .i64 A0, .int .i64 A1, .int .i64 A2, .int .i64 A3, (.slice a2 n k2), .int .i64 0] 42)))
    have B09 : Below w.heap.size w (w8.alloc (.cells #[.int .i64 A0, .int .i64 A1, .int .i64 A2, .int .i64 A3, (.slice a2 n k2), .int .i64 0] 42)) := (B07.trans (B8.mono B07.size)).alloc (Nat.le_trans B07.size B8.size) _
    obtain ⟨W9, hW9⟩ : ∃ W, w8.alloc (.cells #[.int .i64 A0, .int .i64 A1, .int .i64 A2, .int .i64 A3, (.slice a2 n k2), .int .i64 0] 42) = W := ⟨_, rfl⟩
    rw [hW9] at M9 D9 X09 X29 B09 ⊢
    clear hW9 M7 D7 C7 X07 X2 B07 B8 C8 t0 t1 t2 t3 t4 t5 th
    go_wp2_with (go_at_call 25; (with_reducible show Calls Try.prog 25 _ W9 _); refine (eqcache A0 A1 A2 A3 0 (.slice a2 n k2) (.slice a0 n k0) n (fun _ => []) W9 X29.arows X09.arows hn HL.out).mono ?_; rintro e w10 ⟨rfl, B10⟩; (have D10 := D9.next B10); (have r0 := D10.c0); (have r1 := D10.c1); (have r2 := D10.c2); (have r3 := D10.c3); (have r4 := D10.c4); (have r5 := D10.c5); (have rh := D10.hi))
    have M10 := M9.next B10
    have B010 : Below w.heap.size w w10 := B09.trans (B10.mono B09.size)
    clear M9 D9 X09 X29 B09 B10 D10 r0 r1 r2 r3 r4 r5 rh
    have h27 := heldcache A0 A1 A2 A3 0 1 M10 hn HT.out HL.out
    rw [HT1.out] at h27
    go_wp2_with (go_at_call 27; refine h27.mono ?_; rintro e w11 ⟨rfl, B11⟩)
    go_ret
    exact ⟨rfl, B010.trans (B11.mono B010.size)⟩

set_option maxRecDepth 100000 in
theorem lifted (os : Os) (started : os.Started) (H : Type) (enc : TypeId × Value → H) :
    ReturnsInHanded {} Try.checked os 6 .any (Rows.fnExactNewCacheSpec.pre6 enc Try.prog Try.f6 Rows.fnExactNewCacheRow.domain false) (Rows.fnExactNewCacheSpec.post enc Try.prog Try.f6 false true false false) := by
  refine returnsInHanded_of_change (C := Try.checked) own started (by kernel_rfl) Try.func6
    (ChangeSpec.witness6 (enc := enc) (C := Try.checked) false ⟨#[], #[.int .i64 0, .int .i64 0, .int .i64 0, .int .i64 0], []⟩ 8 (by kernel_rfl) (by kernel_rfl) (by kernel_rfl) (by kernel_rfl)) ?_
  intro W base args ds gs before hval0 hW hcnd _
  have hval : ∀ (j : Nat) t v, Try.f6.params[j]? = some t → args[j]? = some v → Value.okWide Try.prog W .any base t v := hval0
  have hW' := hW
  obtain ⟨p, q, hA0, hV, rfl, hfz, hnd⟩ := hW
  have hA : DataW.TrodAll enc Try.prog W 0 (fun _ => true) true Try.f6.params.toList args.toList ds p := hA0
  rw [Try.params6] at hA hval
  obtain ⟨v0, vs0, d0, ds0, p0, q0, hargs, rfl, rfl, h0, r0⟩ := trodAll_cons hA
  obtain ⟨v1, vs1, d1, ds1, p1, q1, rfl, rfl, rfl, h1, r1⟩ := trodAll_cons r0
  obtain ⟨v2, vs2, d2, ds2, p2, q2, rfl, rfl, rfl, h2, r2⟩ := trodAll_cons r1
  obtain ⟨v3, vs3, d3, ds3, p3, q3, rfl, rfl, rfl, h3, r3⟩ := trodAll_cons r2
  obtain ⟨rfl, rfl, rfl⟩ := trodAll_nil r3
  obtain rfl : args = #[v0, v1, v2, v3] := by cases args; simp_all
  obtain ⟨rfl, rfl⟩ := trodVars_none hV
  simp only [List.append_nil] at hW'
  obtain ⟨a0, rfl, rfl, rfl, w0⟩ := open_int Try.underlying3 (hval 0 3 v0 rfl rfl) h0
  obtain ⟨a1, rfl, rfl, rfl, w1⟩ := open_int Try.underlying3 (hval 1 3 v1 rfl rfl) h1
  obtain ⟨a2, rfl, rfl, rfl, w2⟩ := open_int Try.underlying3 (hval 2 3 v2 rfl rfl) h2
  obtain ⟨a3, rfl, rfl, rfl, w3⟩ := open_int Try.underlying3 (hval 3 3 v3 rfl rfl) h3
  clear hA0 hval0
  refine (walk W a0 w0 a1 w1 a2 w2 a3 w3).mono fun e W' ⟨he, hg⟩ => ?_
  subst he
  refine ⟨_, rfl, _, _, _, [], [] ++ ([] ++ ([] ++ ([] ++ []))), [], hW', (trodAll_cons_mk (shut_bool Try.underlying4 _) trodAll_mk0), (trodAll_cons_mk (shut_int Try.underlying3 w0) (trodAll_cons_mk (shut_int Try.underlying3 w1) (trodAll_cons_mk (shut_int Try.underlying3 w2) (trodAll_cons_mk (shut_int Try.underlying3 w3) trodAll_mk0)))), rfl, hg.frame _, fun h => by cases h⟩
theorem over : Rows.fnExactNewCacheRow.holds Try.pinned (OpenSpec.ofChange Rows.fnExactNewCacheSpec) :=
  OpenClaim.holds_of_wide 6 Try.f6 rfl rfl rfl rfl rfl rfl rfl ⟨rfl, rfl, rfl, rfl, rfl⟩ rfl rfl rfl rfl rfl (by kernel_rfl) Try.func6 (by kernel_rfl)
    (of_decide_eq_true (by kernel_rfl)) (by unfold Func.isWrapper; first | (rw [if_pos (by decide +kernel)]; kernel_rfl) | (rw [if_neg (by decide +kernel)]; exact ⟨rfl, rfl⟩))
    (fun os started H enc _ => lifted os started H enc)
end Go.Proofs.Ytfhpjcojccfcoaa.fnExactNewCache
namespace Go.Proofs.Ytfhpjcojccfcoaa
theorem newCache : Rows.FnExactNewCacheSaid := fnExactNewCache.over
#print axioms newCache
end Go.Proofs.Ytfhpjcojccfcoaa
