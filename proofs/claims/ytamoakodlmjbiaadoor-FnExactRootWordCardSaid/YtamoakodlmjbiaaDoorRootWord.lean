/- Proved: for every word a of 32 bits and every int mode the law FnExactRootWord returns true (RootWord answers as its model) and the arguments and the table of forms read afterwards as before; condition: the table of forms reads as the program's text lays it (the card ties it; the pruned copy's other packages are not spoken of). -/
import Derived.Test.YtamoakodlmjbiaaDoorRootU
import Derived.Test.YtamoakodlmjbiaaDoorCards
import Derived.Test.YtamoakodlmjbiaaDoorTie
import Derived.WalkSmall
namespace Go.Proofs.YtamoakodlmjbiaaDoor.fnExactRootWord
open Go.ChangeShapes Go.WideShapes Go.ChangeAt Go.RowKit
set_option linter.unusedVariables false
theorem exists_root : ∀ n : Nat, ∃ r, IsRoot n r
  | 0 => ⟨0, by decide, by decide⟩
  | n + 1 => by
    obtain ⟨r, h1, h2⟩ := exists_root n
    by_cases h : (r + 1) * (r + 1) ≤ n + 1
    · refine ⟨r + 1, h, ?_⟩
      have := sq_lt (r + 1) (r + 1 + 1) (by omega)
      omega
    · exact ⟨r, by omega, by omega⟩
theorem k_unique (S k k' : Nat) (E E' p : Int) (h1 : 1152921504606846976 ≤ S * 2 ^ k) (h2 : S * 2 ^ k < 4611686018427387904) (h3 : 1152921504606846976 ≤ S * 2 ^ k') (h4 : S * 2 ^ k' < 4611686018427387904) (e : 2 * E = p - (k : Int)) (e' : 2 * E' = p - (k' : Int)) : k = k' := by
  have key : ∀ i j : Nat, i + 2 ≤ j → S * 2 ^ i * 4 ≤ S * 2 ^ j := by
    intro i j h
    obtain ⟨d, rfl⟩ : ∃ d, j = i + 2 + d := ⟨j - (i + 2), by omega⟩
    rw [Nat.pow_add, Nat.pow_add, ← Nat.mul_assoc, ← Nat.mul_assoc]
    have := p2 d
    exact Nat.le_mul_of_pos_right _ this
  rcases Nat.lt_trichotomy k k' with h | h | h
  · have := key k k' (by omega); omega
  · exact h
  · have := key k' k (by omega); omega
theorem root_can (S : Nat) (p : Int) (S0 : 0 < S) (S1 : S < 16777216) (p0 : -149 ≤ p) (p1 : p ≤ 105) : ∃ (Z r k : Nat) (E : Int), IsRoot Z r ∧ Z = S * 2 ^ k ∧ 2 * E = p - (k : Int) ∧ 1152921504606846976 ≤ Z ∧ Z < 4611686018427387904 ∧
    ∀ w : World, Calls Tryd.prog 66 #[.agg #[.bool false, .int .u64 S, .int .i64 p, .bool false]] w fun e w' => e = .returned (.agg #[.bool false, .int .u64 r, .int .i64 E, .bool (decide (r * r ≠ Z))]) ∧ Below w.heap.size w w' := by
  obtain ⟨L0, lb0, lb1⟩ := bitLen_spec S S0 (by omega)
  have l24 := Lib.bitLen_le S 24 (by decide) (by omega)
  obtain ⟨L, hL⟩ : ∃ L, Lib.bitLen S = L := ⟨_, rfl⟩
  rw [hL] at L0 lb0 lb1 l24
  obtain ⟨k, E, hk, hE⟩ : ∃ (k : Nat) (E : Int), (k = 61 - L ∨ k = 62 - L) ∧ 2 * E = p - (k : Int) := by
    by_cases h : (p - ((61 - L : Nat) : Int)) % 2 = 0
    · exact ⟨61 - L, (p - ((61 - L : Nat) : Int)) / 2, Or.inl rfl, by omega⟩
    · exact ⟨62 - L, (p - ((62 - L : Nat) : Int)) / 2, Or.inr rfl, by omega⟩
  obtain ⟨Z, hZ⟩ : ∃ Z, S * 2 ^ k = Z := ⟨_, rfl⟩
  have Z0 : 1152921504606846976 ≤ Z := by
    have e : 2 ^ (L - 1) * 2 ^ k ≤ S * 2 ^ k := Nat.mul_le_mul_right _ lb0
    rw [← Nat.pow_add, hZ] at e
    have : 2 ^ 60 ≤ 2 ^ (L - 1 + k) := Nat.pow_le_pow_right (by decide) (by omega)
    omega
  have Z1 : Z < 4611686018427387904 := by
    have e : S * 2 ^ k < 2 ^ L * 2 ^ k := Nat.mul_lt_mul_of_pos_right lb1 (p2 _)
    rw [← Nat.pow_add, hZ] at e
    have : 2 ^ (L + k) ≤ 2 ^ 62 := Nat.pow_le_pow_right (by decide) (by omega)
    omega
  obtain ⟨r, hr⟩ := exists_root Z
  refine ⟨Z, r, k, E, hr, hZ.symm, hE, Z0, Z1, fun w => (rootOf66 S p S0 S1 p0 p1 w).mono fun e w' ⟨⟨Z', r', k', E', m, he, hr', hZ', hE', z0, z1, hm⟩, hb⟩ => ⟨?_, hb⟩⟩
  have hkk : k' = k := k_unique S k' k E' E p (by rw [← hZ']; exact z0) (by rw [← hZ']; exact z1) (by rw [hZ]; exact Z0) (by rw [hZ]; exact Z1) hE' hE
  have hZZ : Z' = Z := by rw [hZ', hkk, hZ]
  have hEE : E' = E := by rw [hkk] at hE'; omega
  subst hZZ
  have hrr : r' = r := hr'.unique hr
  rw [he, hm, hrr, hEE]
set_option maxHeartbeats 1000000 in
theorem both (a mode : Int) (a0 : 0 ≤ a) (a1 : a < 4294967296) : ∃ R : Int,
    (∀ w : World, Calls Tryd.prog 31 #[.int .u32 a, .int .i64 mode] w fun e w' => e = .returned (.int .u32 R) ∧ Below w.heap.size w w') ∧
    (∀ w : World, Forms w → Calls Tryd.prog 32 #[.int .u32 a, .int .i64 mode] w fun e w' => e = .returned (.int .u32 R) ∧ Below w.heap.size w w') := by
  by_cases hm : 0 ≤ mode ∧ mode ≤ 4
  case neg => exact ⟨0, fun w => s_bad a mode hm w, fun w _ => i_bad a mode hm w⟩
  obtain ⟨x, hx⟩ : ∃ x, kindI (a % 2147483648) = x := ⟨_, rfl⟩
  obtain ⟨SA, hSA⟩ : ∃ s, decide (2147483648 ≤ a) = s := ⟨_, rfl⟩
  have xb := kind_bd (a % 2147483648)
  rw [hx] at xb
  have TA := tests a x SA a0 a1 hx hSA
  have easy := fun (R : Int) (hc : x = 0 ∧ R = a ∨ x = 3 ∧ R = 2143289344 ∨ (x = 1 ∨ x = 2) ∧ SA = true ∧ R = 2143289344 ∨ x = 2 ∧ SA = false ∧ R = a) =>
    (⟨R, fun w => s_of a mode R hm w (s_easy a mode x SA TA w R hc), fun w G => i_easy a mode x SA hm a0 a1 hx hSA w G R hc⟩ : ∃ R : Int,
    (∀ w : World, Calls Tryd.prog 31 #[.int .u32 a, .int .i64 mode] w fun e w' => e = .returned (.int .u32 R) ∧ Below w.heap.size w w') ∧
    (∀ w : World, Forms w → Calls Tryd.prog 32 #[.int .u32 a, .int .i64 mode] w fun e w' => e = .returned (.int .u32 R) ∧ Below w.heap.size w w'))
  by_cases x0 : x = 0
  · exact easy a (Or.inl ⟨x0, rfl⟩)
  by_cases x3 : x = 3
  · exact easy _ (Or.inr (Or.inl ⟨x3, rfl⟩))
  have x12 : x = 1 ∨ x = 2 := by omega
  cases SA
  case true => exact easy _ (Or.inr (Or.inr (Or.inl ⟨x12, rfl, rfl⟩)))
  by_cases x2 : x = 2
  · exact easy a (Or.inr (Or.inr (Or.inr ⟨x2, rfl, rfl⟩)))
  have x1 : x = 1 := by omega
  subst x1
  have la : a % 2147483648 < 2139095040 ∧ 0 < exS (a % 2147483648) := by
    have h := hx
    unfold kindI at h
    unfold exS
    refine ⟨?_, ?_⟩ <;> (repeat' split at h) <;> (repeat' split) <;> omega
  have sbA := exS_bd (a % 2147483648) (by omega)
  have pbA := exP_bd (a % 2147483648) (by omega) (by omega)
  have pA := fun v : World => sParts_any a a0 a1 v
  rw [hSA] at pA
  obtain ⟨S', hS⟩ : ∃ S, exS (a % 2147483648) = S := ⟨_, rfl⟩
  obtain ⟨p, hp⟩ : ∃ E, exP (a % 2147483648) = E := ⟨_, rfl⟩
  rw [hS] at sbA la pA
  rw [hp] at pbA pA
  obtain ⟨S, rfl⟩ := Int.eq_ofNat_of_zero_le sbA.1
  have pA' : ∀ v : World, Calls Tryd.prog 50 #[.int .u32 a] v fun e' w' => e' = .returned (.tuple #[.int .i64 S, .int .i64 p]) ∧ w' = v := pA
  obtain ⟨Z, Rt, k, E, hR, hZ, hE, z0, z1, hI⟩ := root_can S p (by omega) (by omega) pbA.1 pbA.2
  have fin : ∀ (t M r P : Nat) (F : Int), t ≤ 1 → M = S * 2 ^ t * 2 ^ 80 → IsRoot M r → P = 2 * r + (if r * r = M then 0 else 1) → 2 * F = p - (t : Int) - 82 → (∀ R : Int, 0 ≤ R → R < 4294967296 → (∀ (v : World) (K L : Nat) (VP VQ : Int) (gP gQ : Bool) (pP pQ : Option Addr) (lP cP lQ cQ : Nat), Num v K (.agg #[.int .i64 VP, .bool gP, .slice pP lP cP]) (P : Int) → Num v L (.agg #[.int .i64 VQ, .bool gQ, .slice pQ lQ cQ]) 1 → 2 ≤ K → K ≤ 9000 → Calls Tryd.prog 40 #[.agg #[.int .i64 VP, .bool gP, .slice pP lP cP, .int .i64 VQ, .bool gQ, .slice pQ lQ cQ, .int .i64 F], .agg #[.int .i64 24, .int .i64 (-149), .int .i64 104], .int .i64 mode] v fun e w' => e = .returned (.int .i64 R) ∧ Below v.heap.size v w') → ∀ w : World, Calls Tryd.prog 65 #[.int .u32 a, .int .i64 mode] w fun e w' => e = .returned (.int .u32 R) ∧ Below w.heap.size w w') → ∃ R : Int,
      (∀ w : World, Calls Tryd.prog 31 #[.int .u32 a, .int .i64 mode] w fun e w' => e = .returned (.int .u32 R) ∧ Below w.heap.size w w') ∧
      (∀ w : World, Forms w → Calls Tryd.prog 32 #[.int .u32 a, .int .i64 mode] w fun e w' => e = .returned (.int .u32 R) ∧ Below w.heap.size w w') := by
    intro t M r P F ht hM hr hP hF hs
    obtain ⟨R, r0, r1, hi, hsp⟩ := root_both S Z Rt k M r P E p mode F t hm.1 hm.2 (by omega) pbA.1 pbA.2 hR hZ hE z0 z1 ht hM hr hP hF
    exact ⟨R, fun w => s_of a mode R hm w (hs R r0 r1 hsp w), fun w G => i_num a mode 1 false hm a0 a1 hx hSA w G R E S p Rt _ hS hp hI hi ⟨rfl, rfl⟩⟩
  by_cases par : p % 2 = 0
  · obtain ⟨M, hM⟩ : ∃ M, S * 2 ^ 0 * 2 ^ 80 = M := ⟨_, rfl⟩
    obtain ⟨r, hr⟩ := exists_root M
    have tm : Int.tmod p 2 = 0 := by have := Int.mul_tdiv_add_tmod p 2; obtain ⟨q, rfl⟩ : ∃ q, p = 2 * q := ⟨p / 2, by omega⟩; rw [Int.mul_comm]; exact Int.mul_tmod_left _ _
    have td : Int.tdiv p 2 - 41 = (p - 82) / 2 := by
      obtain ⟨q, rfl⟩ : ∃ q, p = 2 * q := ⟨p / 2, by omega⟩
      rw [Int.mul_tdiv_cancel_left _ (by decide)]; omega
    have hMI : (S : Int) * 2 ^ 80 = (M : Int) := by omega
    have M0 : 0 < M := by omega
    have M1 : M < 100000000000000000000000000000000 := by omega
    by_cases hsq : r * r = M
    · exact fin 0 M r (2 * r) ((p - 82) / 2) (by omega) hM.symm hr (by rw [if_pos hsq, Nat.add_zero]) (by omega) (fun R r0 r1 hsp w => s_num0q a mode TA w S M r p ((p - 82) / 2) R (by omega) (by omega) pbA.1 pbA.2 tm td (by omega) (by omega) hMI M0 M1 hr hsq pA' r0 r1 hsp)
    · exact fin 0 M r (2 * r + 1) ((p - 82) / 2) (by omega) hM.symm hr (by rw [if_neg hsq]) (by omega) (fun R r0 r1 hsp w => s_num0n a mode TA w S M r p ((p - 82) / 2) R (by omega) (by omega) pbA.1 pbA.2 tm td (by omega) (by omega) hMI M0 M1 hr hsq pA' r0 r1 hsp)
  · obtain ⟨M, hM⟩ : ∃ M, S * 2 ^ 1 * 2 ^ 80 = M := ⟨_, rfl⟩
    obtain ⟨r, hr⟩ := exists_root M
    have tm : ¬ Int.tmod p 2 = 0 := by intro h; have := Int.mul_tdiv_add_tmod p 2; omega
    have td : Int.tdiv (p - 1) 2 - 41 = (p - 83) / 2 := by
      obtain ⟨q, hq⟩ : ∃ q, p - 1 = 2 * q := ⟨(p - 1) / 2, by omega⟩
      rw [hq, Int.mul_tdiv_cancel_left _ (by decide)]; omega
    have hMI : (S : Int) * 2 * 2 ^ 80 = (M : Int) := by omega
    have M0 : 0 < M := by omega
    have M1 : M < 100000000000000000000000000000000 := by omega
    by_cases hsq : r * r = M
    · exact fin 1 M r (2 * r) ((p - 83) / 2) (by omega) hM.symm hr (by rw [if_pos hsq, Nat.add_zero]) (by omega) (fun R r0 r1 hsp w => s_num1q a mode TA w S M r p ((p - 83) / 2) R (by omega) (by omega) pbA.1 pbA.2 tm td (by omega) (by omega) hMI M0 M1 hr hsq pA' r0 r1 hsp)
    · exact fin 1 M r (2 * r + 1) ((p - 83) / 2) (by omega) hM.symm hr (by rw [if_neg hsq]) (by omega) (fun R r0 r1 hsp w => s_num1n a mode TA w S M r p ((p - 83) / 2) R (by omega) (by omega) pbA.1 pbA.2 tm td (by omega) (by omega) hMI M0 M1 hr hsq pA' r0 r1 hsp)
theorem walk (a0 : Int) (a1 : Int) (w0 : (Lit.int .u32 a0).wf = true) (_w1 : (Lit.int .i64 a1).wf = true) (w : World) (G : Forms w) :
    Calls Tryd.prog 9 #[.int .u32 a0, .int .i64 a1] w fun e w' => e = .returned (.bool true) ∧ Below w.heap.size w w' := by
  have b0 := bounds_u32 w0
  obtain ⟨R, hs, hi⟩ := both a0 a1 (by omega) (by omega)
  go_enter Tryd.func9, Tryd.ntmps9
  go_wp2_with (first | (go_at_call 31; refine (hs _).mono ?_; rintro e w1 ⟨rfl, hb1⟩) | (go_at_call 32; refine (hi _ (G.next hb1)).mono ?_; rintro e w2 ⟨rfl, hb2⟩))
  go_ret
  exact ⟨rfl, hb1.trans (hb2.mono hb1.size)⟩
theorem laid_met (os : Os) : laidMet Tryd.prog Rows.fnExactRootWordRow.laid ((laidWorld os).forCall (fun _ _ => 0) ⟨#[], #[.int .u32 0, .int .i64 0], []⟩).memory :=
  laidMet_of_run' 8 (by kernel_rfl) (by kernel_rfl)
set_option maxRecDepth 100000 in
theorem lifted (os : Os) (started : os.Started) (H : Type) (enc : TypeId × Value → H) :
    ReturnsInHanded {} Tryd.checked os 9 .any (fun w args => (Rows.fnExactRootWordSpec.pre enc Tryd.prog Tryd.f9 [] false w args ∧ laidMetH Tryd.prog Rows.fnExactRootWordRow.laid w) ∧ sizedMet enc Tryd.prog Tryd.f9 (OpenSpec.ofChange Rows.fnExactRootWordSpec) false w args)
      (Rows.fnExactRootWordSpec.post enc Tryd.prog Tryd.f9 false true false false) := by
  refine returnsInHanded_of_change_and (C := Tryd.checked) (X := fun w _ => laidMetH Tryd.prog Rows.fnExactRootWordRow.laid w) (fun _ _ _ hh h => h.of_heap hh) own started (by kernel_rfl) Tryd.func9
    (ChangeSpec.witness_at (enc := enc) (C := Tryd.checked) (os := os) (X := fun w _ => laidMetH Tryd.prog Rows.fnExactRootWordRow.laid w) false (laidWorld os) #[.int .u32 0, .int .i64 0] 8 rfl (by kernel_rfl) (by kernel_rfl) (by kernel_rfl) (by kernel_rfl) (by kernel_rfl) (laid_met os)) ?_
  intro W base args ds gs before hval0 hW _ _ hL _
  have hval : ∀ (j : Nat) t v, Tryd.f9.params[j]? = some t → args[j]? = some v → Value.okWide Tryd.prog W .any base t v := hval0
  have hW' := hW
  obtain ⟨p, q, hA0, hV0, rfl, hfz, hnd⟩ := hW
  have hA : DataW.TrodAll enc Tryd.prog W 0 (fun _ => true) true Tryd.f9.params.toList args.toList ds p := hA0
  have hV : DataW.TrodVars enc Tryd.prog W (fun _ => true) ["loop.example/g00053/impl.floatForms"] gs q := hV0
  rw [Tryd.params9] at hA hval
  obtain ⟨v0, vs0, d0, ds0, p0, q0, hargs, rfl, rfl, h0, r0⟩ := trodAll_cons hA
  obtain ⟨v1, vs1, d1, ds1, p1, q1, rfl, rfl, rfl, h1, r1⟩ := trodAll_cons r0
  obtain ⟨rfl, rfl, rfl⟩ := trodAll_nil r1
  obtain rfl : args = #[v0, v1] := by cases args; simp_all
  obtain ⟨a0, rfl, rfl, rfl, w0⟩ := open_int Tryd.underlying23 (hval 0 23 v0 rfl rfl) h0
  obtain ⟨a1, rfl, rfl, rfl, w1⟩ := open_int Tryd.underlying3 (hval 1 3 v1 rfl rfl) h1
  obtain ⟨g, t, cs, fuel, d, p', rfl, hg, ht, hvar, hd, rfl⟩ := trodVars_one hV
  obtain rfl := Option.some.inj (gTab.symm.trans hg)
  obtain rfl := Option.some.inj (gTabType.symm.trans ht)
  obtain rfl : cs = cells8 := Option.some.inj (hvar.symm.trans (cells_of_laid hL))
  obtain ⟨rfl, rfl⟩ := DataW.Trod.unique (v := .agg cells8) ⟨fuel, hd⟩ ⟨4, reads_table enc W _⟩
  clear hA0 hV0 hval0
  refine (walk a0 a1 w0 w1 W (forms_of_laid hL)).mono fun e W' ⟨he, bel⟩ => ?_
  subst he
  have hv' : W'.var? Tryd.prog "loop.example/g00053/impl.floatForms" = some cells8 := var?_below bel gTab (forms_of_laid hL).pos hvar
  exact ⟨_, rfl, _, _, _, [], [], MemPlace.row ⟨0, 0, none⟩ cells8.size ++ [] ++ [], hW', trodAll_cons_mk (shut_bool Tryd.underlying4 _) trodAll_mk0, (trodAll_cons_mk (shut_int Tryd.underlying23 w0) (trodAll_cons_mk (shut_int Tryd.underlying3 w1) trodAll_mk0)), ⟨0, 50, cells8, 4, [], [], hg, ht, hv', reads_table enc W' _, rfl, rfl⟩, bel.frame _, fun h => by cases h⟩

theorem said : Rows.FnExactRootWordSaid :=
  OpenClaim.holds_of_wide 9 Tryd.f9 rfl rfl rfl rfl rfl rfl rfl ⟨rfl, rfl, rfl, rfl, rfl⟩ rfl rfl rfl rfl rfl (by kernel_rfl) Tryd.func9 (by kernel_rfl)
    (of_decide_eq_true (by kernel_rfl)) (by unfold Func.isWrapper; first | (rw [if_pos (by decide +kernel)]; kernel_rfl) | (rw [if_neg (by decide +kernel)]; exact ⟨rfl, rfl⟩))
    (fun os started H enc _ => lifted os started H enc)

theorem plain (f : FuncId) (fn : Func) (hf : Tryd.pinned.checked.prog.funcNamed "loop.example/g00053/laws.FnExactRootWord" = some f) (hfn : Tryd.pinned.checked.prog.funcs[f]? = some fn) :
    false = Tryd.pinned.checked.prog.looks [] ∧ ∀ (j : Nat) t, fn.params[j]? = some t → Tryd.pinned.checked.prog.wantsStandIn t = false := by
  obtain rfl : f = 9 := Option.some.inj ((show Tryd.prog.funcNamed "loop.example/g00053/laws.FnExactRootWord" = some 9 by kernel_rfl).symm.trans hf) |>.symm
  obtain rfl : fn = Tryd.f9 := (Option.some.inj (Tryd.func9.symm.trans hfn)).symm
  refine ⟨by kernel_rfl, fun j t ht => ?_⟩
  rw [Tryd.params9] at ht
  rcases (by simpa using Array.mem_of_getElem? ht : t = 23 ∨ t = 3) with rfl | rfl
  · exact (show Tryd.prog.wantsStandIn 23 = false by kernel_rfl)
  · exact (show Tryd.prog.wantsStandIn 3 = false by kernel_rfl)

theorem card : Rows.FnExactRootWordCardSaid :=
  Claim7.holds_tied_plain_at .later [] _ _ _ _ said (fun _ h => by cases h) (by kernel_rfl) (fun _ h => by cases h) fnExactRootWord_row_tie rfl ⟨rfl, rfl⟩ (by kernel_rfl) rfl plain (by kernel_rfl)

end Go.Proofs.YtamoakodlmjbiaaDoor.fnExactRootWord
namespace Go.Proofs.YtamoakodlmjbiaaDoor
theorem root_word_holds : Rows.FnExactRootWordCardSaid := fnExactRootWord.card
#print axioms root_word_holds
end Go.Proofs.YtamoakodlmjbiaaDoor
