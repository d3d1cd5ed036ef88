/- Proved: for every word a of 32 bits the law FnExactToWhole returns true (ToWhole answers as its model) and the argument and the table of forms read afterwards as before; condition: the table of forms reads as the program's text lays it (the card ties it; the pruned copy's other packages are not spoken of). -/
import Derived.Test.YtfogppgpbcelgaaDoorSWholeA
import Derived.Test.YtfogppgpbcelgaaDoorSWholeB
import Derived.Test.YtfogppgpbcelgaaDoorSWholeC
import Derived.Test.YtfogppgpbcelgaaDoorSWholeD
import Derived.Test.YtfogppgpbcelgaaDoorCards
import Derived.Test.YtfogppgpbcelgaaDoorTie
import Derived.WalkSmall
namespace Go.Proofs.YtfogppgpbcelgaaDoor.fnExactToWhole
open Go.ChangeShapes Go.WideShapes Go.ChangeAt Go.RowKit

/-- Both sides answer alike: one number for each word and mode. -/
theorem both (a mode : Int) (h0 : 0 ≤ a) (h1 : a < 4294967296) : ∃ R : Int,
    (∀ w : World, Calls Tryd.prog 11 #[.int .u32 a, .int .i64 mode] w fun e w' => e = .returned (.int .i64 R) ∧ w' = w) ∧
    (∀ w : World, Forms w → Calls Tryd.prog 12 #[.int .u32 a, .int .i64 mode] w fun e w' => e = .returned (.int .i64 R) ∧ Below w.heap.size w w') := by
  by_cases hm : 0 ≤ mode ∧ mode ≤ 4
  case neg => exact ⟨0, fun w => sw_bad a mode hm w, fun w _ => whole_bad a mode hm w⟩
  by_cases hk : 2139095040 < a % 2147483648
  · have hk3 : kindI (a % 2147483648) = 3 := by unfold kindI; rw [if_neg (by omega), if_neg (by omega), if_neg (by omega)]
    exact ⟨0, fun w => sw_nan a mode h0 h1 hm hk w, fun w G => whole_nan a mode h0 h1 hm hk3 w G⟩
  have hk' : a % 2147483648 ≤ 2139095040 := by omega
  have hk3 : ¬ kindI (a % 2147483648) = 3 := by
    unfold kindI
    by_cases c0 : a % 2147483648 = 0
    · rw [if_pos c0]; decide
    · rw [if_neg c0]
      by_cases c1 : a % 2147483648 ≤ 2139095039
      · rw [if_pos c1]; decide
      · rw [if_neg c1, if_pos (by omega)]; decide
  obtain ⟨S, hS⟩ : ∃ S, exS (a % 2147483648) = S := ⟨_, rfl⟩
  obtain ⟨P, hP⟩ : ∃ P, exP (a % 2147483648) = P := ⟨_, rfl⟩
  have sb := exS_bd (a % 2147483648) (by omega)
  have pb := exP_bd (a % 2147483648) (by omega) hk'
  rw [hS] at sb
  rw [hP] at pb
  obtain ⟨s0, s1⟩ := sb
  by_cases hf : 1325400064 ≤ keyI a ∨ keyI a < -1325400064
  · refine ⟨_, fun w => sw_far a mode h0 h1 hm hk' hf w, fun w G => ?_⟩
    have hr : 1325400064 ≤ a % 2147483648 := by unfold keyI at hf; split at hf <;> omega
    have hp8 : 8 ≤ P := by rw [← hP]; unfold exP; rw [if_pos (by omega)]; omega
    have hs8 : 8388608 ≤ S := by rw [← hS]; unfold exS; rw [if_pos (by omega)]; omega
    by_cases hp : 32 ≤ P
    · refine (whole_far a mode h0 h1 hm hk3 w G S P hS hP hp).mono fun e w' h => ?_
      have hw : wholeI 2147483648 (decide (2147483648 ≤ a)) = if 2147483648 ≤ a then -2147483648 else 2147483647 := by
        unfold wholeI
        by_cases h : 2147483648 ≤ a
        · simp [h]
        · simp [h]
      rw [hw] at h; exact h
    · have q1 : (256 : Int) ≤ 2 ^ P.toNat := by
        have a : (2 : Nat) ^ 8 ≤ 2 ^ P.toNat := Nat.pow_le_pow_right (by decide) (by omega)
        have e : ((2 : Int) ^ P.toNat) = ((2 ^ P.toNat : Nat) : Int) := by simp
        rw [e]; omega
      have q2 : (2 : Int) ^ P.toNat ≤ 2147483648 := by
        have a : (2 : Nat) ^ P.toNat ≤ 2 ^ 31 := Nat.pow_le_pow_right (by decide) (by omega)
        have e : ((2 : Int) ^ P.toNat) = ((2 ^ P.toNat : Nat) : Int) := by simp
        rw [e]; omega
      have lo : 8388608 * 256 ≤ S * 2 ^ P.toNat := Int.mul_le_mul hs8 q1 (by decide) s0
      have hi : S * 2 ^ P.toNat ≤ 16777216 * 2147483648 := Int.mul_le_mul (by omega) q2 (by omega) (by decide)
      have e64 : S * 2 ^ P.toNat % 18446744073709551616 = S * 2 ^ P.toNat := by omega
      refine (whole_up a mode h0 h1 hm hk3 w G S P _ hS hP (by omega) (by omega) e64 (by omega) (by omega)).mono fun e w' h => ?_
      have hw : wholeI (S * 2 ^ P.toNat) (decide (2147483648 ≤ a)) = if 2147483648 ≤ a then -2147483648 else 2147483647 := by
        unfold wholeI
        generalize S * 2 ^ P.toNat = Z at *
        by_cases h : 2147483648 ≤ a
        · simp only [h, decide_true, if_true]
          split <;> omega
        · simp only [h, decide_false, if_false, Bool.false_eq_true]
          rw [if_pos (by omega)]
      rw [hw] at h; exact h
  have hf1 : keyI a < 1325400064 := by omega
  have hf2 : -1325400064 ≤ keyI a := by omega
  by_cases hp : 0 ≤ P
  · have hr : a % 2147483648 ≤ 1325400064 := by unfold keyI at hf1 hf2; split at hf1 <;> omega
    have hr2 : ¬ 2147483648 ≤ a → a % 2147483648 < 1325400064 := by intro h; unfold keyI at hf1; rw [if_neg h] at hf1; exact hf1
    have hp8 : P ≤ 8 := by rw [← hP]; unfold exP; split <;> omega
    have q1 : (1 : Int) ≤ 2 ^ P.toNat := Int.pow_pos (by decide)
    have lo : 0 ≤ S * 2 ^ P.toNat := Int.mul_nonneg s0 (by omega)
    have hi : S * 2 ^ P.toNat ≤ 2147483648 ∧ (¬ 2147483648 ≤ a → S * 2 ^ P.toNat ≤ 2147483647) := by
      by_cases h8 : P = 8
      · have hre : a % 2147483648 = 1325400064 := by rw [← hP] at h8; unfold exP at h8; split at h8 <;> omega
        have hSe : S = 8388608 := by rw [← hS, hre]; rfl
        subst h8; subst hSe
        refine ⟨by decide, fun h => ?_⟩
        have := hr2 h
        omega
      · have q2 : (2 : Int) ^ P.toNat ≤ 128 := by
          have a : (2 : Nat) ^ P.toNat ≤ 2 ^ 7 := Nat.pow_le_pow_right (by decide) (by omega)
          have e : ((2 : Int) ^ P.toNat) = ((2 ^ P.toNat : Nat) : Int) := by simp
          rw [e]; omega
        have : S * 2 ^ P.toNat ≤ 16777215 * 128 := Int.mul_le_mul (by omega) q2 (by omega) (by decide)
        omega
    obtain ⟨hi1, hi2⟩ := hi
    have e64 : S * 2 ^ P.toNat % 18446744073709551616 = S * 2 ^ P.toNat := by omega
    refine ⟨_, fun w => sw_up a mode h0 h1 hm hk' hf1 hf2 w S P _ hS hP s0 s1 hp hp8 rfl lo hi1 hi2, fun w G => ?_⟩
    refine (whole_up a mode h0 h1 hm hk3 w G S P _ hS hP hp (by omega) e64 lo (by omega)).mono fun e w' h => ?_
    have hw : wholeI (S * 2 ^ P.toNat) (decide (2147483648 ≤ a)) = if 2147483648 ≤ a then -(S * 2 ^ P.toNat) else S * 2 ^ P.toNat := by
      unfold wholeI
      generalize S * 2 ^ P.toNat = Z at *
      by_cases h : 2147483648 ≤ a
      · simp only [h, decide_true, if_true]
        rw [if_neg (by omega)]
      · have := hi2 h
        simp only [h, decide_false, if_false, Bool.false_eq_true]
        rw [if_neg (by omega)]
    rw [hw] at h; exact h
  obtain ⟨p, hp'⟩ : ∃ p, P = -p := ⟨-P, by omega⟩
  subst hp'
  have hpos : (0 : Int) < 2 ^ p.toNat := Int.pow_pos (by decide)
  have e1 := Int.ediv_mul_add_emod S (2 ^ p.toNat)
  have e2 := Int.emod_nonneg S (Int.ne_of_gt hpos)
  have e3 : 0 ≤ S / 2 ^ p.toNat := Int.ediv_nonneg s0 (Int.le_of_lt hpos)
  have e4 : S / 2 ^ p.toNat ≤ S := Int.ediv_le_self _ s0
  have e5 : 0 ≤ S / 2 ^ p.toNat * 2 ^ p.toNat := Int.mul_nonneg e3 (Int.le_of_lt hpos)
  obtain ⟨n, hn⟩ : ∃ n, (if goesB mode (decide (2147483648 ≤ a)) (S / 2 ^ p.toNat) (cutI (S % 2 ^ p.toNat) (2 ^ (p.toNat - 1)) false) then S / 2 ^ p.toNat + 1 else S / 2 ^ p.toNat) = n := ⟨_, rfl⟩
  have hnb : n ≤ 2147483647 := by rw [← hn]; split <;> omega
  have impl : ∀ w : World, Forms w → Calls Tryd.prog 12 #[.int .u32 a, .int .i64 mode] w fun e w' => e = .returned (.int .i64 (if 2147483648 ≤ a then -n else n)) ∧ Below w.heap.size w w' := by
    intro w G
    refine (whole_dn a mode h0 h1 hm hk3 w G S (-p) (S / 2 ^ p.toNat) _ _ hS hP s0 s1 (by omega) (by omega) (by rw [Int.neg_neg]) e3 e4 rfl rfl).mono fun e w' h => ?_
    rw [Int.neg_neg, hn, whole_sign n a hnb] at h
    exact h
  by_cases h40 : p < 40
  · have hb : 0 < (2 : Int) ^ (p.toNat - 1) ∧ (2 : Int) ^ (p.toNat - 1) ≤ 549755813888 := by
      have a : (2 : Nat) ^ (p.toNat - 1) ≤ 2 ^ 39 := Nat.pow_le_pow_right (by decide) (by omega)
      have b : 0 < (2 : Nat) ^ (p.toNat - 1) := Nat.two_pow_pos _
      have e : ((2 : Int) ^ (p.toNat - 1)) = ((2 ^ (p.toNat - 1) : Nat) : Int) := by simp
      rw [e]; omega
    have hR : S - S / 2 ^ p.toNat * 2 ^ p.toNat = S % 2 ^ p.toNat := by omega
    refine ⟨_, fun w => ?_, impl⟩
    rcases (by omega : mode = 0 ∨ mode = 1 ∨ mode = 2 ∨ mode = 3 ∨ mode = 4) with rfl | rfl | rfl | rfl | rfl
    · exact sw_dn0 a h0 h1 hk' hf1 hf2 w S p _ _ _ _ _ hS hP s0 s1 (by omega) h40 rfl rfl rfl hR rfl e3 e4 e5 (by omega) hb.1 hb.2 n hn
    · exact sw_dn1 a h0 h1 hk' hf1 hf2 w S p _ _ _ _ _ hS hP s0 s1 (by omega) h40 rfl rfl rfl hR rfl e3 e4 e5 (by omega) hb.1 hb.2 n hn
    · exact sw_dn2 a h0 h1 hk' hf1 hf2 w S p _ _ _ _ _ hS hP s0 s1 (by omega) h40 rfl rfl rfl hR rfl e3 e4 e5 (by omega) hb.1 hb.2 n hn
    · exact sw_dn3 a h0 h1 hk' hf1 hf2 w S p _ _ _ _ _ hS hP s0 s1 (by omega) h40 rfl rfl rfl hR rfl e3 e4 e5 (by omega) hb.1 hb.2 n hn
    · exact sw_dn4 a h0 h1 hk' hf1 hf2 w S p _ _ _ _ _ hS hP s0 s1 (by omega) h40 rfl rfl rfl hR rfl e3 e4 e5 (by omega) hb.1 hb.2 n hn
  · have big : (549755813888 : Int) ≤ 2 ^ (p.toNat - 1) := by
      have a : (2 : Nat) ^ 39 ≤ 2 ^ (p.toNat - 1) := Nat.pow_le_pow_right (by decide) (by omega)
      have e : ((2 : Int) ^ (p.toNat - 1)) = ((2 ^ (p.toNat - 1) : Nat) : Int) := by simp
      rw [e]; omega
    have big' : (549755813888 : Int) ≤ 2 ^ p.toNat := by
      have a : (2 : Nat) ^ 39 ≤ 2 ^ p.toNat := Nat.pow_le_pow_right (by decide) (by omega)
      have e : ((2 : Int) ^ p.toNat) = ((2 ^ p.toNat : Nat) : Int) := by simp
      rw [e]; omega
    have hq : S / 2 ^ p.toNat = 0 := Int.ediv_eq_zero_of_lt s0 (by omega)
    have hr : S % 2 ^ p.toNat = S := Int.emod_eq_of_lt s0 (by omega)
    refine ⟨_, fun w => sw_tiny a mode hm h0 h1 hk' hf1 hf2 w S p hS hP s0 s1 (by omega) (by omega) n ?_, impl⟩
    rw [← hn, hq, hr]
    have hc : cutI S (2 ^ (p.toNat - 1)) false = if S = 0 then 0 else 1 := by
      unfold cutI
      by_cases z : S = 0
      · rw [if_pos ⟨z, rfl⟩, if_pos z]
      · rw [if_neg (fun h => z h.1), if_pos (by omega), if_neg z]
    rw [hc]
    rcases (by omega : mode = 0 ∨ mode = 1 ∨ mode = 2 ∨ mode = 3 ∨ mode = 4) with rfl | rfl | rfl | rfl | rfl <;> by_cases z : S = 0 <;> by_cases h : 2147483648 ≤ a <;> simp [goesB, z, h] <;> omega

theorem walk (a0 : Int) (w0 : (Lit.int .u32 a0).wf = true) (w : World) (G : Forms w) :
    Calls Tryd.prog 4 #[.int .u32 a0] w fun e w' => e = .returned (.bool true) ∧ Below w.heap.size w w' := by
  have b0 := bounds_u32 w0
  obtain ⟨R, hs, hi⟩ := both a0 2 (by omega) (by omega)
  have e1 : wrap32 R % 4294967296 = R % 4294967296 := by unfold wrap32; omega
  have E1 := e1
  have s7 : ∀ w : World, Calls Tryd.prog 7 #[.int .u32 a0] w fun e w' => e = .returned (.int .u32 (R % 4294967296)) ∧ w' = w := by
    intro w
    go_enter Tryd.func7, Tryd.ntmps7
    clear e1
    go_wp2_with (go_at_call 11; refine (hs _).mono ?_; rintro e w1 ⟨rfl, rfl⟩)
    go_ret
    exact ⟨by rw [← E1]; rfl, rfl⟩
  have i8 : ∀ w : World, Forms w → Calls Tryd.prog 8 #[.int .u32 a0] w fun e w' => e = .returned (.int .u32 (R % 4294967296)) ∧ Below w.heap.size w w' := by
    intro w G
    go_enter Tryd.func8, Tryd.ntmps8
    go_wp2_with (go_at_call 12; refine (hi _ G).mono ?_; rintro e w1 ⟨rfl, hb1⟩)
    go_ret
    exact ⟨rfl, hb1⟩
  obtain ⟨Z, hZ⟩ : ∃ Z, (R % 4294967296) = Z := ⟨_, rfl⟩
  rw [hZ] at s7 i8
  clear e1 E1
  go_enter Tryd.func4, Tryd.ntmps4
  go_wp2_with (first | (go_at_call 7; refine (s7 _).mono ?_; rintro e w1 ⟨rfl, rfl⟩) | (go_at_call 8; refine (i8 _ G).mono ?_; rintro e w2 ⟨rfl, hb2⟩))
  go_ret
  exact ⟨rfl, hb2⟩
theorem laid_met (os : Os) : laidMet Tryd.prog Rows.fnExactToWholeRow.laid ((laidWorld os).forCall (fun _ _ => 0) ⟨#[], #[.int .u32 0], []⟩).memory :=
  laidMet_of_run' 8 (by kernel_rfl) (by kernel_rfl)
set_option maxRecDepth 100000 in
theorem lifted (os : Os) (started : os.Started) (H : Type) (enc : TypeId × Value → H) :
    ReturnsInHanded {} Tryd.checked os 4 .any (fun w args => (Rows.fnExactToWholeSpec.pre enc Tryd.prog Tryd.f4 [] false w args ∧ laidMetH Tryd.prog Rows.fnExactToWholeRow.laid w) ∧ sizedMet enc Tryd.prog Tryd.f4 (OpenSpec.ofChange Rows.fnExactToWholeSpec) false w args)
      (Rows.fnExactToWholeSpec.post enc Tryd.prog Tryd.f4 false true false false) := by
  refine returnsInHanded_of_change_and (C := Tryd.checked) (X := fun w _ => laidMetH Tryd.prog Rows.fnExactToWholeRow.laid w) (fun _ _ _ hh h => h.of_heap hh) own started (by kernel_rfl) Tryd.func4
    (ChangeSpec.witness_at (enc := enc) (C := Tryd.checked) (os := os) (X := fun w _ => laidMetH Tryd.prog Rows.fnExactToWholeRow.laid w) false (laidWorld os) #[.int .u32 0] 8 rfl (by kernel_rfl) (by kernel_rfl) (by kernel_rfl) (by kernel_rfl) (by kernel_rfl) (laid_met os)) ?_
  intro W base args ds gs before hval0 hW _ _ hL _
  have hval : ∀ (j : Nat) t v, Tryd.f4.params[j]? = some t → args[j]? = some v → Value.okWide Tryd.prog W .any base t v := hval0
  have hW' := hW
  obtain ⟨p, q, hA0, hV0, rfl, hfz, hnd⟩ := hW
  have hA : DataW.TrodAll enc Tryd.prog W 0 (fun _ => true) true Tryd.f4.params.toList args.toList ds p := hA0
  have hV : DataW.TrodVars enc Tryd.prog W (fun _ => true) ["loop.example/g00053/impl.floatForms"] gs q := hV0
  rw [Tryd.params4] at hA hval
  obtain ⟨v0, vs0, d0, ds0, p0, q0, hargs, rfl, rfl, h0, r0⟩ := trodAll_cons hA
  obtain ⟨rfl, rfl, rfl⟩ := trodAll_nil r0
  obtain rfl : args = #[v0] := by cases args; simp_all
  obtain ⟨a0, rfl, rfl, rfl, w0⟩ := open_int Tryd.underlying22 (hval 0 22 v0 rfl rfl) h0
  obtain ⟨g, t, cs, fuel, d, p', rfl, hg, ht, hvar, hd, rfl⟩ := trodVars_one hV
  obtain rfl := Option.some.inj (gTab.symm.trans hg)
  obtain rfl := Option.some.inj (gTabType.symm.trans ht)
  obtain rfl : cs = cells8 := Option.some.inj (hvar.symm.trans (cells_of_laid hL))
  obtain ⟨rfl, rfl⟩ := DataW.Trod.unique (v := .agg cells8) ⟨fuel, hd⟩ ⟨4, reads_table enc W _⟩
  clear hA0 hV0 hval0
  refine (walk a0 w0 W (forms_of_laid hL)).mono fun e W' ⟨he, bel⟩ => ?_
  subst he
  have hv' : W'.var? Tryd.prog "loop.example/g00053/impl.floatForms" = some cells8 := var?_below bel gTab (forms_of_laid hL).pos hvar
  exact ⟨_, rfl, _, _, _, [], [], MemPlace.row ⟨0, 0, none⟩ cells8.size ++ [] ++ [], hW', trodAll_cons_mk (shut_bool Tryd.underlying4 _) trodAll_mk0, (trodAll_cons_mk (shut_int Tryd.underlying22 w0) trodAll_mk0), ⟨0, 57, cells8, 4, [], [], hg, ht, hv', reads_table enc W' _, rfl, rfl⟩, bel.frame _, fun h => by cases h⟩

theorem said : Rows.FnExactToWholeSaid :=
  OpenClaim.holds_of_wide 4 Tryd.f4 rfl rfl rfl rfl rfl rfl rfl ⟨rfl, rfl, rfl, rfl, rfl⟩ rfl rfl rfl rfl rfl (by kernel_rfl) Tryd.func4 (by kernel_rfl)
    (of_decide_eq_true (by kernel_rfl)) (by unfold Func.isWrapper; first | (rw [if_pos (by decide +kernel)]; kernel_rfl) | (rw [if_neg (by decide +kernel)]; exact ⟨rfl, rfl⟩))
    (fun os started H enc _ => lifted os started H enc)

theorem plain (f : FuncId) (fn : Func) (hf : Tryd.pinned.checked.prog.funcNamed "loop.example/g00053/laws.FnExactToWhole" = some f) (hfn : Tryd.pinned.checked.prog.funcs[f]? = some fn) :
    false = Tryd.pinned.checked.prog.looks [] ∧ ∀ (j : Nat) t, fn.params[j]? = some t → Tryd.pinned.checked.prog.wantsStandIn t = false := by
  obtain rfl : f = 4 := Option.some.inj ((show Tryd.prog.funcNamed "loop.example/g00053/laws.FnExactToWhole" = some 4 by kernel_rfl).symm.trans hf) |>.symm
  obtain rfl : fn = Tryd.f4 := (Option.some.inj (Tryd.func4.symm.trans hfn)).symm
  refine ⟨by kernel_rfl, fun j t ht => ?_⟩
  rw [Tryd.params4] at ht
  obtain rfl : t = 22 := by simpa using Array.mem_of_getElem? ht
  exact (show Tryd.prog.wantsStandIn 22 = false by kernel_rfl)

theorem card : Rows.FnExactToWholeCardSaid :=
  Claim7.holds_tied_plain_at .later [] _ _ _ _ said (fun _ h => by cases h) (by kernel_rfl) (fun _ h => by cases h) fnExactToWhole_row_tie rfl ⟨rfl, rfl⟩ (by kernel_rfl) rfl plain (by kernel_rfl)

end Go.Proofs.YtfogppgpbcelgaaDoor.fnExactToWhole
namespace Go.Proofs.YtfogppgpbcelgaaDoor
theorem to_whole_holds : Rows.FnExactToWholeCardSaid := fnExactToWhole.card
#print axioms to_whole_holds
end Go.Proofs.YtfogppgpbcelgaaDoor
