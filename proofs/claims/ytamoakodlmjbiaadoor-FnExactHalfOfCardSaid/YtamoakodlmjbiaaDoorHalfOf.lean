/- Proved: for every word a of 32 bits and every int mode the law FnExactHalfOf returns true (HalfOf answers as its model) and the arguments and the table of forms read afterwards as before; condition: the table of forms reads as the program's text lays it (the card ties it; the pruned copy's other packages are not spoken of). -/
import Derived.Test.YtamoakodlmjbiaaDoorWords
import Derived.Test.YtamoakodlmjbiaaDoorHalf
import Derived.Test.YtamoakodlmjbiaaDoorCards
import Derived.Test.YtamoakodlmjbiaaDoorTie
import Derived.WalkSmall
namespace Go.Proofs.YtamoakodlmjbiaaDoor.fnExactHalfOf
open Go.ChangeShapes Go.WideShapes Go.ChangeAt Go.RowKit
set_option linter.unusedVariables false
theorem nanOf_h (w : World) : Calls Tryd.prog 74 #[.int .i64 1] w fun e w' => e = .returned (.int .u32 32256) ∧ w' = w := by
  go_enter Tryd.func74, Tryd.ntmps74
  go_wp2
  go_ret
  exact ⟨rfl, rfl⟩
theorem hn_of (a : Int) (h0 : 0 ≤ a) (h1 : a < 4294967296) : (a / 2147483648 * 2147483648 != 0) = decide (2147483648 ≤ a) := by rw [Bool.eq_iff_iff]; simp; omega
theorem btw_0 (a mode : Int) (h0 : 0 ≤ a) (h1 : a < 4294967296) (hk : kindI (a % 2147483648) = 0) (w : World) (G : Forms w) :
    Calls Tryd.prog 38 #[.int .u32 a, .int .i64 0, .int .i64 1, .int .i64 mode] w fun e w' => e = .returned (.int .u32 (sgn_h (decide (2147483648 ≤ a)) 0)) ∧ Below w.heap.size w w' := by
  have hn := hn_of a h0 h1
  go_enter Tryd.func38, Tryd.ntmps38
  go_wp2_with (first | (go_at_call 56; refine (signOf_w _ h0 h1 _ G.c2).mono ?_; rintro e w' ⟨rfl, rfl⟩) | (go_at_call 55; refine (kindOf_w _ h0 h1 _ G).mono ?_; rintro e w' ⟨rfl, rfl⟩) | (go_at_call 73; refine (withSign_h _ _ (by decide) (by decide) _ G.c6).mono ?_; rintro e w' ⟨rfl, rfl⟩))
  go_ret
  exact ⟨rfl, Below.refl _ _⟩
theorem btw_2 (a mode : Int) (h0 : 0 ≤ a) (h1 : a < 4294967296) (hk : kindI (a % 2147483648) = 2) (w : World) (G : Forms w) :
    Calls Tryd.prog 38 #[.int .u32 a, .int .i64 0, .int .i64 1, .int .i64 mode] w fun e w' => e = .returned (.int .u32 (sgn_h (decide (2147483648 ≤ a)) 31744)) ∧ Below w.heap.size w w' := by
  have hn := hn_of a h0 h1
  go_enter Tryd.func38, Tryd.ntmps38
  go_wp2_with (first | (go_at_call 56; refine (signOf_w _ h0 h1 _ G.c2).mono ?_; rintro e w' ⟨rfl, rfl⟩) | (go_at_call 55; refine (kindOf_w _ h0 h1 _ G).mono ?_; rintro e w' ⟨rfl, rfl⟩) | (go_at_call 58; refine (infOf_h _ G.c7).mono ?_; rintro e w' ⟨rfl, rfl⟩) | (go_at_call 73; refine (withSign_h _ _ (by decide) (by decide) _ G.c6).mono ?_; rintro e w' ⟨rfl, rfl⟩))
  go_ret
  exact ⟨rfl, Below.refl _ _⟩
theorem btw_3 (a mode : Int) (h0 : 0 ≤ a) (h1 : a < 4294967296) (hk : kindI (a % 2147483648) = 3) (w : World) (G : Forms w) :
    Calls Tryd.prog 38 #[.int .u32 a, .int .i64 0, .int .i64 1, .int .i64 mode] w fun e w' => e = .returned (.int .u32 32256) ∧ Below w.heap.size w w' := by
  go_enter Tryd.func38, Tryd.ntmps38
  go_wp2_with (first | (go_at_call 56; refine (signOf_w _ h0 h1 _ G.c2).mono ?_; rintro e w' ⟨rfl, rfl⟩) | (go_at_call 55; refine (kindOf_w _ h0 h1 _ G).mono ?_; rintro e w' ⟨rfl, rfl⟩) | (go_at_call 74; refine (nanOf_h _).mono ?_; rintro e w' ⟨rfl, rfl⟩))
  go_ret
  exact ⟨rfl, Below.refl _ _⟩
theorem btw_1 (a mode R : Int) (h0 : 0 ≤ a) (h1 : a < 4294967296) (hk : kindI (a % 2147483648) = 1) (w : World) (G : Forms w)
    (hR : ∀ v : World, Forms v → Calls Tryd.prog 52 #[.agg #[.bool (decide (2147483648 ≤ a)), .int .u64 (exS (a % 2147483648)), .int .i64 (exP (a % 2147483648)), .bool false], .int .i64 1, .int .i64 mode] v fun e w' => e = .returned (.int .u32 R) ∧ Below v.heap.size v w') :
    Calls Tryd.prog 38 #[.int .u32 a, .int .i64 0, .int .i64 1, .int .i64 mode] w fun e w' => e = .returned (.int .u32 R) ∧ Below w.heap.size w w' := by
  go_enter Tryd.func38, Tryd.ntmps38
  go_wp2_with (first | (go_at_call 56; refine (signOf_w _ h0 h1 _ G.c2).mono ?_; rintro e w' ⟨rfl, rfl⟩) | (go_at_call 55; refine (kindOf_w _ h0 h1 _ G).mono ?_; rintro e w' ⟨rfl, rfl⟩) | (go_at_call 64; refine (exactOf_w _ h0 h1 _ G).mono ?_; rintro e w1 ⟨rfl, hb1⟩) | (go_at_call 52; refine (hR _ (G.below hb1)).mono ?_; rintro e w2 ⟨rfl, hb2⟩))
  go_ret
  exact ⟨rfl, hb1.trans (hb2.mono hb1.size)⟩
theorem iH_bad (a mode : Int) (hm : ¬ (0 ≤ mode ∧ mode ≤ 4)) (w : World) : Calls Tryd.prog 18 #[.int .u32 a, .int .i64 mode] w fun e w' => e = .returned (.int .u32 0) ∧ Below w.heap.size w w' := by
  have hg := goodMode_any mode w
  rw [decide_eq_false hm] at hg
  go_enter Tryd.func18, Tryd.ntmps18
  go_wp2_with (go_at_call 45; refine hg.mono ?_; rintro e w' ⟨rfl, hw⟩; subst w')
  go_ret
  exact ⟨rfl, Below.refl _ _⟩
theorem iH_of (a mode R : Int) (hm : 0 ≤ mode ∧ mode ≤ 4) (w : World) (hB : Calls Tryd.prog 38 #[.int .u32 a, .int .i64 0, .int .i64 1, .int .i64 mode] w fun e w' => e = .returned (.int .u32 R) ∧ Below w.heap.size w w') :
    Calls Tryd.prog 18 #[.int .u32 a, .int .i64 mode] w fun e w' => e = .returned (.int .u32 R) ∧ Below w.heap.size w w' := by
  have hg := goodMode_any mode w
  rw [decide_eq_true hm] at hg
  go_enter Tryd.func18, Tryd.ntmps18
  go_wp2_with (first | (go_at_call 45; refine hg.mono ?_; rintro e w' ⟨rfl, hw⟩; subst w') | (go_at_call 38; refine hB.mono ?_; rintro e w1 ⟨rfl, hb1⟩))
  go_ret
  exact ⟨rfl, hb1⟩
theorem sH_bad (a mode : Int) (hm : ¬ (0 ≤ mode ∧ mode ≤ 4)) (w : World) : Calls Tryd.prog 20 #[.int .u32 a, .int .i64 mode] w fun e w' => e = .returned (.int .u32 0) ∧ Below w.heap.size w w' := by
  have hg := sGood_any mode w
  rw [decide_eq_false hm] at hg
  go_enter Tryd.func20, Tryd.ntmps20
  go_wp2_with (go_at_call 17; refine hg.mono ?_; rintro e w' ⟨rfl, hw⟩; subst w')
  go_ret
  exact ⟨rfl, Below.refl _ _⟩
theorem sgn_h_eq (a : Int) (h0 : 0 ≤ a) (h1 : a < 4294967296) (z : Int) : a / 2147483648 * 32768 + z = sgn_h (decide (2147483648 ≤ a)) z := by
  unfold sgn_h
  by_cases h : 2147483648 ≤ a
  · rw [decide_eq_true h, if_pos rfl]; omega
  · rw [decide_eq_false h, if_neg (by decide)]; omega
set_option maxHeartbeats 1000000 in
theorem sH_3 (a mode : Int) (hm : 0 ≤ mode ∧ mode ≤ 4) (h0 : 0 ≤ a) (h1 : a < 4294967296) (k : 2139095040 < a % 2147483648) (w : World) : Calls Tryd.prog 20 #[.int .u32 a, .int .i64 mode] w fun e w' => e = .returned (.int .u32 32256) ∧ Below w.heap.size w w' := by
  have hg := sGood_any mode w
  rw [decide_eq_true hm] at hg
  have hN := sNaN_any a h0 h1 w
  rw [decide_eq_true k] at hN
  go_enter Tryd.func20, Tryd.ntmps20
  go_wp2_with (first | (go_at_call 17; refine hg.mono ?_; rintro e w' ⟨rfl, hw⟩; subst w') | (go_at_call 47; refine hN.mono ?_; rintro e w' ⟨rfl, hw⟩; subst w'))
  go_ret
  exact ⟨rfl, Below.refl _ _⟩
set_option maxHeartbeats 1000000 in
theorem sH_2 (a mode : Int) (hm : 0 ≤ mode ∧ mode ≤ 4) (h0 : 0 ≤ a) (h1 : a < 4294967296) (k : a % 2147483648 = 2139095040) (w : World) : Calls Tryd.prog 20 #[.int .u32 a, .int .i64 mode] w fun e w' => e = .returned (.int .u32 (sgn_h (decide (2147483648 ≤ a)) 31744)) ∧ Below w.heap.size w w' := by
  have hg := sGood_any mode w
  rw [decide_eq_true hm] at hg
  have hN := sNaN_any a h0 h1 w
  rw [decide_eq_false (by omega)] at hN
  have hI := sInf_any a h0 h1 w
  rw [decide_eq_true k] at hI
  have e := sgn_h_eq a h0 h1 31744
  rw [← e]
  obtain ⟨q, hq⟩ : ∃ q, a / 2147483648 = q := ⟨_, rfl⟩
  have q0 : 0 ≤ q := by omega
  have q1 : q ≤ 1 := by omega
  rw [hq]
  clear e k
  go_enter Tryd.func20, Tryd.ntmps20
  go_wp2_with (first | (go_at_call 17; refine hg.mono ?_; rintro e w' ⟨rfl, hw⟩; subst w') | (go_at_call 47; refine hN.mono ?_; rintro e w' ⟨rfl, hw⟩; subst w') | (go_at_call 48; refine hI.mono ?_; rintro e w' ⟨rfl, hw⟩; subst w'))
  go_ret
  exact ⟨by first | rfl | (congr 2; omega), Below.refl _ _⟩
set_option maxHeartbeats 1000000 in
theorem sH_0 (a mode : Int) (hm : 0 ≤ mode ∧ mode ≤ 4) (h0 : 0 ≤ a) (h1 : a < 4294967296) (k : a % 2147483648 = 0) (w : World) : Calls Tryd.prog 20 #[.int .u32 a, .int .i64 mode] w fun e w' => e = .returned (.int .u32 (sgn_h (decide (2147483648 ≤ a)) 0)) ∧ Below w.heap.size w w' := by
  have hg := sGood_any mode w
  rw [decide_eq_true hm] at hg
  have hN := sNaN_any a h0 h1 w
  rw [decide_eq_false (by omega)] at hN
  have hI := sInf_any a h0 h1 w
  rw [decide_eq_false (by omega)] at hI
  have hZ := sNil_any a h0 h1 w
  rw [decide_eq_true k] at hZ
  have e := sgn_h_eq a h0 h1 0
  rw [← e, Int.add_zero]
  obtain ⟨q, hq⟩ : ∃ q, a / 2147483648 = q := ⟨_, rfl⟩
  have q0 : 0 ≤ q := by omega
  have q1 : q ≤ 1 := by omega
  rw [hq]
  clear e k
  go_enter Tryd.func20, Tryd.ntmps20
  go_wp2_with (first | (go_at_call 17; refine hg.mono ?_; rintro e w' ⟨rfl, hw⟩; subst w') | (go_at_call 47; refine hN.mono ?_; rintro e w' ⟨rfl, hw⟩; subst w') | (go_at_call 48; refine hI.mono ?_; rintro e w' ⟨rfl, hw⟩; subst w') | (go_at_call 49; refine hZ.mono ?_; rintro e w' ⟨rfl, hw⟩; subst w'))
  go_ret
  exact ⟨by first | rfl | (congr 2; omega), Below.refl _ _⟩
set_option maxHeartbeats 1000000 in
theorem sH_1 (a mode m E R : Int) (hm : 0 ≤ mode ∧ mode ≤ 4) (h0 : 0 ≤ a) (h1 : a < 4294967296) (k0 : 0 < a % 2147483648) (k1 : a % 2147483648 < 2139095040) (r0 : 0 ≤ R) (r1 : R < 4294967296) (w : World)
    (hmm : sgI (decide (2147483648 ≤ a)) (exS (a % 2147483648)) = m) (hE : exP (a % 2147483648) = E) (b0 : -16777216 < m) (b1 : m < 16777216)
    (hT : ∀ v : World, Calls Tryd.prog 40 #[.agg #[.int .i64 m, .bool false, .slice none 0 0, .int .i64 1, .bool false, .slice none 0 0, .int .i64 E], .agg #[.int .i64 11, .int .i64 (-24), .int .i64 5], .int .i64 mode] v fun e w' => e = .returned (.int .i64 R) ∧ Below v.heap.size v w') :
    Calls Tryd.prog 20 #[.int .u32 a, .int .i64 mode] w fun e w' => e = .returned (.int .u32 R) ∧ Below w.heap.size w w' := by
  have hg := sGood_any mode w
  rw [decide_eq_true hm] at hg
  have hN := sNaN_any a h0 h1 w
  rw [decide_eq_false (by omega)] at hN
  have hI := sInf_any a h0 h1 w
  rw [decide_eq_false (by omega)] at hI
  have hZ := sNil_any a h0 h1 w
  rw [decide_eq_false (by omega)] at hZ
  have hP := sParts_any a h0 h1 w
  rw [hmm, hE] at hP
  obtain ⟨q, hq⟩ : ∃ q, a / 2147483648 = q := ⟨_, rfl⟩
  have q0 : 0 ≤ q := by omega
  have q1 : q ≤ 1 := by omega
  clear hmm hE k0 k1
  go_enter Tryd.func20, Tryd.ntmps20
  go_wp2_with (first | (go_at_call 17; refine hg.mono ?_; rintro e w' ⟨rfl, hw⟩; subst w') | (go_at_call 47; refine hN.mono ?_; rintro e w' ⟨rfl, hw⟩; subst w') | (go_at_call 48; refine hI.mono ?_; rintro e w' ⟨rfl, hw⟩; subst w') | (go_at_call 49; refine hZ.mono ?_; rintro e w' ⟨rfl, hw⟩; subst w') | (go_at_call 50; refine hP.mono ?_; rintro e w' ⟨rfl, hw⟩; subst w') | (go_at_call 41; refine (zExact m E (by omega) (by omega) _).mono ?_; rintro e w1 ⟨rfl, hb1⟩) | (go_at_call 51; refine (zHalf w1).mono ?_; rintro e w2 ⟨rfl, hb2⟩) | (go_at_call 40; refine (hT w2).mono ?_; rintro e w3 ⟨rfl, hb3⟩))
  go_ret
  exact ⟨rfl, (hb1.trans (hb2.mono hb1.size)).trans (hb3.mono (Nat.le_trans hb1.size hb2.size))⟩
/-- Both sides answer alike: one number for each word and mode. -/
theorem both (a mode : Int) (h0 : 0 ≤ a) (h1 : a < 4294967296) : ∃ R : Int,
    (∀ w : World, Calls Tryd.prog 20 #[.int .u32 a, .int .i64 mode] w fun e w' => e = .returned (.int .u32 R) ∧ Below w.heap.size w w') ∧
    (∀ w : World, Forms w → Calls Tryd.prog 18 #[.int .u32 a, .int .i64 mode] w fun e w' => e = .returned (.int .u32 R) ∧ Below w.heap.size w w') := by
  by_cases hm : 0 ≤ mode ∧ mode ≤ 4
  case neg => exact ⟨0, fun w => sH_bad a mode hm w, fun w _ => iH_bad a mode hm w⟩
  by_cases c3 : 2139095040 < a % 2147483648
  · have hk : kindI (a % 2147483648) = 3 := by unfold kindI; rw [if_neg (by omega), if_neg (by omega), if_neg (by omega)]
    exact ⟨32256, fun w => sH_3 a mode hm h0 h1 c3 w, fun w G => iH_of a mode _ hm w (btw_3 a mode h0 h1 hk w G)⟩
  by_cases c2 : a % 2147483648 = 2139095040
  · have hk : kindI (a % 2147483648) = 2 := by unfold kindI; rw [if_neg (by omega), if_neg (by omega), if_pos c2]
    exact ⟨_, fun w => sH_2 a mode hm h0 h1 c2 w, fun w G => iH_of a mode _ hm w (btw_2 a mode h0 h1 hk w G)⟩
  by_cases c0 : a % 2147483648 = 0
  · have hk : kindI (a % 2147483648) = 0 := by unfold kindI; rw [if_pos c0]
    exact ⟨_, fun w => sH_0 a mode hm h0 h1 c0 w, fun w G => iH_of a mode _ hm w (btw_0 a mode h0 h1 hk w G)⟩
  have hk : kindI (a % 2147483648) = 1 := by unfold kindI; rw [if_neg c0, if_pos (by omega)]
  have sb := exS_bd (a % 2147483648) (by omega)
  have pb := exP_bd (a % 2147483648) (by omega) (by omega)
  have sp : 0 < exS (a % 2147483648) := by unfold exS; split <;> omega
  obtain ⟨S, hS⟩ : ∃ S, exS (a % 2147483648) = S := ⟨_, rfl⟩
  obtain ⟨E, hE⟩ : ∃ E, exP (a % 2147483648) = E := ⟨_, rfl⟩
  rw [hS] at sb sp
  rw [hE] at pb
  obtain ⟨z, rfl⟩ := Int.eq_ofNat_of_zero_le sb.1
  obtain ⟨n, hn⟩ : ∃ n, decide (2147483648 ≤ a) = n := ⟨_, rfl⟩
  obtain ⟨X, hX⟩ : ∃ X, sgI n (z : Int) = X := ⟨_, rfl⟩
  have hXa : X.natAbs = z := by rw [← hX]; unfold sgI; split <;> omega
  have hXn : decide (X < 0) = n := by rw [← hX]; unfold sgI; cases n <;> simp <;> omega
  obtain ⟨R, r0, r1, hi, hs⟩ := whole_both_h n z E mode X hm.1 hm.2 (by omega) (by omega) (by omega) (by omega) hXa hXn
  refine ⟨R, fun w => ?_, fun w G => ?_⟩
  · refine sH_1 a mode X E R hm h0 h1 (by omega) (by omega) r0 r1 w (by rw [hn, hS, hX]) hE (by omega) (by omega) (fun v => ?_)
    exact hs v 3 3 X 1 false false none none 0 0 0 0 (num_small v 3 X (by omega) (by omega)) (num_small v 3 1 (by decide) (by decide)) (by decide) (by decide)
  · refine iH_of a mode R hm w (btw_1 a mode R h0 h1 hk w G (fun v Gv => ?_))
    rw [hn, hS, hE]
    exact hi v Gv
theorem walk (a0 : Int) (a1 : Int) (w0 : (Lit.int .u32 a0).wf = true) (_w1 : (Lit.int .i64 a1).wf = true) (w : World) (G : Forms w) :
    Calls Tryd.prog 10 #[.int .u32 a0, .int .i64 a1] w fun e w' => e = .returned (.bool true) ∧ Below w.heap.size w w' := by
  have b0 := bounds_u32 w0
  obtain ⟨R, hs, hi⟩ := both a0 a1 (by omega) (by omega)
  go_enter Tryd.func10, Tryd.ntmps10
  go_wp2_with (first | (go_at_call 20; refine (hs _).mono ?_; rintro e w1 ⟨rfl, hb1⟩) | (go_at_call 18; refine (hi _ (G.below hb1)).mono ?_; rintro e w2 ⟨rfl, hb2⟩))
  go_ret
  exact ⟨rfl, hb1.trans (hb2.mono hb1.size)⟩
theorem laid_met (os : Os) : laidMet Tryd.prog Rows.fnExactHalfOfRow.laid ((laidWorld os).forCall (fun _ _ => 0) ⟨#[], #[.int .u32 0, .int .i64 0], []⟩).memory :=
  laidMet_of_run' 8 (by kernel_rfl) (by kernel_rfl)
set_option maxRecDepth 100000 in
theorem lifted (os : Os) (started : os.Started) (H : Type) (enc : TypeId × Value → H) :
    ReturnsInHanded {} Tryd.checked os 10 .any (fun w args => (Rows.fnExactHalfOfSpec.pre enc Tryd.prog Tryd.f10 [] false w args ∧ laidMetH Tryd.prog Rows.fnExactHalfOfRow.laid w) ∧ sizedMet enc Tryd.prog Tryd.f10 (OpenSpec.ofChange Rows.fnExactHalfOfSpec) false w args)
      (Rows.fnExactHalfOfSpec.post enc Tryd.prog Tryd.f10 false true false false) := by
  refine returnsInHanded_of_change_and (C := Tryd.checked) (X := fun w _ => laidMetH Tryd.prog Rows.fnExactHalfOfRow.laid w) (fun _ _ _ hh h => h.of_heap hh) own started (by kernel_rfl) Tryd.func10
    (ChangeSpec.witness_at (enc := enc) (C := Tryd.checked) (os := os) (X := fun w _ => laidMetH Tryd.prog Rows.fnExactHalfOfRow.laid w) false (laidWorld os) #[.int .u32 0, .int .i64 0] 8 rfl (by kernel_rfl) (by kernel_rfl) (by kernel_rfl) (by kernel_rfl) (by kernel_rfl) (laid_met os)) ?_
  intro W base args ds gs before hval0 hW _ _ hL _
  have hval : ∀ (j : Nat) t v, Tryd.f10.params[j]? = some t → args[j]? = some v → Value.okWide Tryd.prog W .any base t v := hval0
  have hW' := hW
  obtain ⟨p, q, hA0, hV0, rfl, hfz, hnd⟩ := hW
  have hA : DataW.TrodAll enc Tryd.prog W 0 (fun _ => true) true Tryd.f10.params.toList args.toList ds p := hA0
  have hV : DataW.TrodVars enc Tryd.prog W (fun _ => true) ["loop.example/g00053/impl.floatForms"] gs q := hV0
  rw [Tryd.params10] at hA hval
  obtain ⟨v0, vs0, d0, ds0, p0, q0, hargs, rfl, rfl, h0, r0⟩ := trodAll_cons hA
  obtain ⟨v1, vs1, d1, ds1, p1, q1, rfl, rfl, rfl, h1, r1⟩ := trodAll_cons r0
  obtain ⟨rfl, rfl, rfl⟩ := trodAll_nil r1
  obtain rfl : args = #[v0, v1] := by cases args; simp_all
  obtain ⟨a0, rfl, rfl, rfl, w0⟩ := open_int Tryd.underlying23 (hval 0 23 v0 rfl rfl) h0
  obtain ⟨a1, rfl, rfl, rfl, w1⟩ := open_int Tryd.underlying3 (hval 1 3 v1 rfl rfl) h1
  obtain ⟨g, t, cs, fuel, d, p', rfl, hg, ht, hvar, hd, rfl⟩ := trodVars_one hV
  obtain rfl := Option.some.inj (gTab.symm.trans hg)
  obtain rfl := Option.some.inj (gTabType.symm.trans ht)
  obtain rfl : cs = cells8 := Option.some.inj (hvar.symm.trans (cells_of_laid hL))
  obtain ⟨rfl, rfl⟩ := DataW.Trod.unique (v := .agg cells8) ⟨fuel, hd⟩ ⟨4, reads_table enc W _⟩
  clear hA0 hV0 hval0
  refine (walk a0 a1 w0 w1 W (forms_of_laid hL)).mono fun e W' ⟨he, bel⟩ => ?_
  subst he
  have hv' : W'.var? Tryd.prog "loop.example/g00053/impl.floatForms" = some cells8 := var?_below bel gTab (forms_of_laid hL).pos hvar
  exact ⟨_, rfl, _, _, _, [], [], MemPlace.row ⟨0, 0, none⟩ cells8.size ++ [] ++ [], hW', trodAll_cons_mk (shut_bool Tryd.underlying4 _) trodAll_mk0, (trodAll_cons_mk (shut_int Tryd.underlying23 w0) (trodAll_cons_mk (shut_int Tryd.underlying3 w1) trodAll_mk0)), ⟨0, 50, cells8, 4, [], [], hg, ht, hv', reads_table enc W' _, rfl, rfl⟩, bel.frame _, fun h => by cases h⟩

theorem said : Rows.FnExactHalfOfSaid :=
  OpenClaim.holds_of_wide 10 Tryd.f10 rfl rfl rfl rfl rfl rfl rfl ⟨rfl, rfl, rfl, rfl, rfl⟩ rfl rfl rfl rfl rfl (by kernel_rfl) Tryd.func10 (by kernel_rfl)
    (of_decide_eq_true (by kernel_rfl)) (by unfold Func.isWrapper; first | (rw [if_pos (by decide +kernel)]; kernel_rfl) | (rw [if_neg (by decide +kernel)]; exact ⟨rfl, rfl⟩))
    (fun os started H enc _ => lifted os started H enc)

theorem plain (f : FuncId) (fn : Func) (hf : Tryd.pinned.checked.prog.funcNamed "loop.example/g00053/laws.FnExactHalfOf" = some f) (hfn : Tryd.pinned.checked.prog.funcs[f]? = some fn) :
    false = Tryd.pinned.checked.prog.looks [] ∧ ∀ (j : Nat) t, fn.params[j]? = some t → Tryd.pinned.checked.prog.wantsStandIn t = false := by
  obtain rfl : f = 10 := Option.some.inj ((show Tryd.prog.funcNamed "loop.example/g00053/laws.FnExactHalfOf" = some 10 by kernel_rfl).symm.trans hf) |>.symm
  obtain rfl : fn = Tryd.f10 := (Option.some.inj (Tryd.func10.symm.trans hfn)).symm
  refine ⟨by kernel_rfl, fun j t ht => ?_⟩
  rw [Tryd.params10] at ht
  rcases (by simpa using Array.mem_of_getElem? ht : t = 23 ∨ t = 3) with rfl | rfl
  · exact (show Tryd.prog.wantsStandIn 23 = false by kernel_rfl)
  · exact (show Tryd.prog.wantsStandIn 3 = false by kernel_rfl)

theorem card : Rows.FnExactHalfOfCardSaid :=
  Claim7.holds_tied_plain_at .later [] _ _ _ _ said (fun _ h => by cases h) (by kernel_rfl) (fun _ h => by cases h) fnExactHalfOf_row_tie rfl ⟨rfl, rfl⟩ (by kernel_rfl) rfl plain (by kernel_rfl)

end Go.Proofs.YtamoakodlmjbiaaDoor.fnExactHalfOf
namespace Go.Proofs.YtamoakodlmjbiaaDoor
theorem half_of_holds : Rows.FnExactHalfOfCardSaid := fnExactHalfOf.card
#print axioms half_of_holds
end Go.Proofs.YtamoakodlmjbiaaDoor
