/- Proved: for every two words a, b of 32 bits the law FnExactCmpWords returns true (CmpWords answers as its model) and the arguments read afterwards as before; no conditions. -/
import Derived.Test.YtamoakodlmjbiaaRows
import Derived.WalkKit
import Derived.ProofKit
import Derived.OpenShut
import Derived.WalkLawsBesides
import Derived.Laws.BitsAll
import Derived.Laws.StandIn
import Derived.Test.YtamoakodlmjbiaaOrder
namespace Go.Proofs.Ytamoakodlmjbiaa.fnExactCmpWords
open Go.ChangeShapes Go.WideShapes Go.ChangeAt Go.RowKit
set_option linter.unusedVariables false      -- a walk need not use every 'w<i>' (that an integer argument fits its kind)

theorem own : ownKnob Try.prog.godebug = none := by kernel_rfl

/-- The whole number by which words are in order, on the walk's whole numbers. -/
def keyI (a : Int) : Int := if 2147483648 ≤ a then -(a % 2147483648) else a % 2147483648
theorem isNaN_any (a : Int) (h0 : 0 ≤ a) (h1 : a < 4294967296) (w : World) :
    Calls Try.prog 9 #[.int .u32 a] w fun e w' => e = .returned (.bool (decide (2139095040 < a % 2147483648))) ∧ w' = w := by
  have hb : bits .and .u32 a 2147483647 = a % 2147483648 := by go_bits2
  go_enter Try.func9, Try.ntmps9
  go_wp2
  go_ret
  exact ⟨rfl, rfl⟩
theorem neg2_any (a : Int) (h0 : 0 ≤ a) (h1 : a < 4294967296) (w : World) :
    Calls Try.prog 12 #[.int .u32 a] w fun e w' => e = .returned (.bool (decide (2147483648 ≤ a))) ∧ w' = w := by
  have hb : (a / 2147483648 == 1) = decide (2147483648 ≤ a) := by rw [Bool.eq_iff_iff]; simp; omega
  go_enter Try.func12, Try.ntmps12
  go_wp2
  go_ret
  exact ⟨by simp, rfl⟩
theorem key_any (a : Int) (h0 : 0 ≤ a) (h1 : a < 4294967296) (w : World) :
    Calls Try.prog 10 #[.int .u32 a] w fun e w' => e = .returned (.int .i64 (keyI a)) ∧ w' = w := by
  have hb : bits .and .u32 a 2147483647 = a % 2147483648 := by go_bits2
  by_cases hn : 2147483648 ≤ a
  · go_enter Try.func10, Try.ntmps10
    go_wp2_with (go_at_call 12; refine (neg2_any _ (by omega) (by omega) _).mono ?_; rintro e w' ⟨rfl, rfl⟩)
    go_ret
    exact ⟨by unfold keyI; rw [if_pos hn]; first | rfl | simp, rfl⟩
  · go_enter Try.func10, Try.ntmps10
    go_wp2_with (go_at_call 12; refine (neg2_any _ (by omega) (by omega) _).mono ?_; rintro e w' ⟨rfl, rfl⟩)
    go_ret
    exact ⟨by unfold keyI; rw [if_neg (by omega)]; first | rfl | simp, rfl⟩
/-- What both say of two words. -/
def cmpI (a b : Int) : Int :=
  if 2139095040 < a % 2147483648 ∨ 2139095040 < b % 2147483648 then 2 else if keyI a < keyI b then -1 else if keyI b < keyI a then 1 else 0
theorem spec_any (a b : Int) (h0 : 0 ≤ a) (h1 : a < 4294967296) (g0 : 0 ≤ b) (g1 : b < 4294967296) (w : World) :
    Calls Try.prog 7 #[.int .u32 a, .int .u32 b] w fun e w' => e = .returned (.int .i64 (cmpI a b)) ∧ w' = w := by
  by_cases n1 : 2139095040 < a % 2147483648
  · go_enter Try.func7, Try.ntmps7
    go_wp2_with (go_at_call 9; refine (isNaN_any _ (by omega) (by omega) _).mono ?_; rintro e w' ⟨rfl, rfl⟩)
    go_ret
    exact ⟨by unfold cmpI; rw [if_pos (Or.inl n1)]; rfl, rfl⟩
  by_cases n2 : 2139095040 < b % 2147483648
  · go_enter Try.func7, Try.ntmps7
    go_wp2_with (go_at_call 9; refine (isNaN_any _ (by omega) (by omega) _).mono ?_; rintro e w' ⟨rfl, rfl⟩)
    go_ret
    exact ⟨by unfold cmpI; rw [if_pos (Or.inr n2)]; rfl, rfl⟩
  have hno : ¬ (2139095040 < a % 2147483648 ∨ 2139095040 < b % 2147483648) := by omega
  by_cases n3 : keyI a < keyI b
  · go_enter Try.func7, Try.ntmps7
    go_wp2_with (first | (go_at_call 9; refine (isNaN_any _ (by omega) (by omega) _).mono ?_; rintro e w' ⟨rfl, rfl⟩) | (go_at_call 10; refine (key_any _ (by omega) (by omega) _).mono ?_; rintro e w' ⟨rfl, rfl⟩))
    go_ret
    exact ⟨by unfold cmpI; rw [if_neg (by omega), if_pos n3]; rfl, rfl⟩
  by_cases n4 : keyI b < keyI a
  · go_enter Try.func7, Try.ntmps7
    go_wp2_with (first | (go_at_call 9; refine (isNaN_any _ (by omega) (by omega) _).mono ?_; rintro e w' ⟨rfl, rfl⟩) | (go_at_call 10; refine (key_any _ (by omega) (by omega) _).mono ?_; rintro e w' ⟨rfl, rfl⟩))
    go_ret
    exact ⟨by unfold cmpI; rw [if_neg (by omega), if_neg (by omega), if_pos n4]; rfl, rfl⟩
  · go_enter Try.func7, Try.ntmps7
    go_wp2_with (first | (go_at_call 9; refine (isNaN_any _ (by omega) (by omega) _).mono ?_; rintro e w' ⟨rfl, rfl⟩) | (go_at_call 10; refine (key_any _ (by omega) (by omega) _).mono ?_; rintro e w' ⟨rfl, rfl⟩))
    go_ret
    exact ⟨by unfold cmpI; rw [if_neg (by omega), if_neg (by omega), if_neg (by omega)]; rfl, rfl⟩
theorem frombits (n : Int) (w : World) : (callFunc 11 #[.int .u32 n]).run Try.prog w = .ok (.value (.float .f32 n.toNat)) w := by
  rw [run_callFunc_standIn (e := Extern.MathFloatBits.float32frombits) Try.func11 (by kernel_rfl) (by kernel_rfl) (by kernel_rfl) (by kernel_rfl)]
  rfl
theorem key_nat (a : Int) (h0 : 0 ≤ a) (h1 : a < 4294967296) : Order.key a.toNat = keyI a := by
  obtain ⟨n, rfl⟩ := Int.eq_ofNat_of_zero_le h0
  unfold Order.key keyI Order.sg Order.ng
  by_cases h : 2147483648 ≤ (n : Int)
  · rw [if_pos h, if_pos (by simp; omega)]; simp
  · rw [if_neg h, if_neg (by simp; omega)]; simp
theorem impl_of (a b : Int) (w : World) (o : Option Ordering) (r : Int)
    (ho : Ieee.single.order a.toNat b.toNat = o) (hr : r = match o with | some .lt => -1 | some .gt => 1 | some .eq => 0 | none => 2) :
    Calls Try.prog 8 #[.int .u32 a, .int .u32 b] w fun e w' => e = .returned (.int .i64 r) ∧ w' = w := by
  have ho' : FloatKind.f32.format.order a.toNat b.toNat = o := ho
  have hf := frombits
  subst hr
  rcases o with _ | o
  · go_enter Try.func8, Try.ntmps8
    go_wp2
    go_ret
    exact ⟨rfl, rfl⟩
  cases o
  all_goals
    go_enter Try.func8, Try.ntmps8
    go_wp2
    go_ret
    exact ⟨rfl, rfl⟩
theorem impl_any (a b : Int) (h0 : 0 ≤ a) (h1 : a < 4294967296) (g0 : 0 ≤ b) (g1 : b < 4294967296) (w : World) :
    Calls Try.prog 8 #[.int .u32 a, .int .u32 b] w fun e w' => e = .returned (.int .i64 (cmpI a b)) ∧ w' = w := by
  have ka := key_nat a h0 h1
  have kb := key_nat b g0 g1
  by_cases n1 : 2139095040 < a % 2147483648
  · exact impl_of a b w none _ (Order.order_nan_left _ _ (by omega)) (by unfold cmpI; rw [if_pos (Or.inl n1)])
  by_cases n2 : 2139095040 < b % 2147483648
  · exact impl_of a b w none _ (Order.order_nan_right _ _ (by omega)) (by unfold cmpI; rw [if_pos (Or.inr n2)])
  by_cases n3 : keyI a < keyI b
  · exact impl_of a b w (some .lt) _ (Order.order_lt _ _ (by omega) (by omega) (by omega)) (by unfold cmpI; rw [if_neg (by omega), if_pos n3])
  by_cases n4 : keyI b < keyI a
  · exact impl_of a b w (some .gt) _ (Order.order_gt _ _ (by omega) (by omega) (by omega)) (by unfold cmpI; rw [if_neg (by omega), if_neg (by omega), if_pos n4])
  · exact impl_of a b w (some .eq) _ (Order.order_eq _ _ (by omega) (by omega) (by omega)) (by unfold cmpI; rw [if_neg (by omega), if_neg (by omega), if_neg (by omega)])

/-! ### STEP 1: THE WALK: the Go text returns true. 'Grown w w'': the world has at most new blocks (Derived/RowKit3.lean). Part the cases AHEAD of 'go_enter' where a test parts the walk; take each callee by a contract of your own. -/
theorem walk (a0 : Int) (a1 : Int) (w0 : (Lit.int .u32 a0).wf = true) (w1 : (Lit.int .u32 a1).wf = true) (w : World) :
    Calls Try.prog 4 #[.int .u32 a0, .int .u32 a1] w fun e w' => e = .returned (.bool true) ∧ Grown w w' := by
  have b0 := bounds_u32 w0
  have b1 := bounds_u32 w1
  go_enter Try.func4, Try.ntmps4
  go_wp2_with (first | (go_at_call 7; refine (spec_any _ _ (by omega) (by omega) (by omega) (by omega) _).mono ?_; rintro e w' ⟨rfl, rfl⟩) | (go_at_call 8; refine (impl_any _ _ (by omega) (by omega) (by omega) (by omega) _).mono ?_; rintro e w' ⟨rfl, rfl⟩))
  go_ret
  exact ⟨rfl, by repeat (first | exact Grown.refl _ | apply Grown.drew | apply Grown.alloc)⟩

/-! ### THE ROW's STEP: WRITTEN OUT: LEAVE IT -/
set_option maxRecDepth 100000 in
theorem lifted (os : Os) (started : os.Started) (H : Type) (enc : TypeId × Value → H) :
    ReturnsInHanded {} Try.checked os 4 .any (Rows.fnExactCmpWordsSpec.pre6 enc Try.prog Try.f4 Rows.fnExactCmpWordsRow.domain false) (Rows.fnExactCmpWordsSpec.post enc Try.prog Try.f4 false true false false) := by
  refine returnsInHanded_of_change (C := Try.checked) own started (by kernel_rfl) Try.func4
    (ChangeSpec.witness6 (enc := enc) (C := Try.checked) false ⟨#[], #[.int .u32 0, .int .u32 0], []⟩ 8 (by kernel_rfl) (by kernel_rfl) (by kernel_rfl) (by kernel_rfl)) ?_
  intro W base args ds gs before hval0 hW hcnd _
  have hval : ∀ (j : Nat) t v, Try.f4.params[j]? = some t → args[j]? = some v → Value.okWide Try.prog W .any base t v := hval0
  have hW' := hW
  obtain ⟨p, q, hA0, hV, rfl, hfz, hnd⟩ := hW
  have hA : DataW.TrodAll enc Try.prog W 0 (fun _ => true) true Try.f4.params.toList args.toList ds p := hA0
  rw [Try.params4] at hA hval
  obtain ⟨v0, vs0, d0, ds0, p0, q0, hargs, rfl, rfl, h0, r0⟩ := trodAll_cons hA
  obtain ⟨v1, vs1, d1, ds1, p1, q1, rfl, rfl, rfl, h1, r1⟩ := trodAll_cons r0
  obtain ⟨rfl, rfl, rfl⟩ := trodAll_nil r1
  obtain rfl : args = #[v0, v1] := by cases args; simp_all
  obtain ⟨rfl, rfl⟩ := trodVars_none hV
  obtain ⟨a0, rfl, rfl, rfl, w0⟩ := open_int Try.underlying23 (hval 0 23 v0 rfl rfl) h0
  obtain ⟨a1, rfl, rfl, rfl, w1⟩ := open_int Try.underlying23 (hval 1 23 v1 rfl rfl) h1
  clear hA0 hval0
  simp only [List.append_nil] at hW'
  refine (walk a0 a1 w0 w1 W).mono fun e W' ⟨he, hg⟩ => ?_
  subst he
  exact ⟨_, rfl, post_of_same (pa := []) (pv := []) hW' (fun _ _ _ => (trodAll_cons_mk (shut_bool Try.underlying4 _) trodAll_mk0)) (fun sp _ => (trodAll_cons_mk (shut_int Try.underlying23 w0) (trodAll_cons_mk (shut_int Try.underlying23 w1) trodAll_mk0))) (fun _ _ => rfl) rfl
    (hg.frame _) hg.2.1 (ok_one (by kernel_rfl) rfl (okWide_bool_mk Try.underlying4 _))⟩

theorem over : Rows.fnExactCmpWordsRow.holds Try.pinned (OpenSpec.ofChange Rows.fnExactCmpWordsSpec) :=
  OpenClaim.holds_of_wide 4 Try.f4 rfl rfl rfl rfl rfl rfl rfl ⟨rfl, rfl, rfl, rfl, rfl⟩ rfl rfl rfl rfl rfl (by kernel_rfl) Try.func4 (by kernel_rfl)
    (of_decide_eq_true (by kernel_rfl)) (by unfold Func.isWrapper; first | (rw [if_pos (by decide +kernel)]; kernel_rfl) | (rw [if_neg (by decide +kernel)]; exact ⟨rfl, rfl⟩))
    (fun os started H enc _ => lifted os started H enc)

/-- ████ THE STATEMENT ████ -/
theorem proved : Rows.FnExactCmpWordsSaid :=
  over
end Go.Proofs.Ytamoakodlmjbiaa.fnExactCmpWords
namespace Go.Proofs.Ytamoakodlmjbiaa
theorem cmp_words_holds : Rows.FnExactCmpWordsSaid := fnExactCmpWords.proved
#print axioms cmp_words_holds
end Go.Proofs.Ytamoakodlmjbiaa
