/- Proved: for every two words a, b of 32 bits and every int mode the law FnExactAddWords returns true (AddWords answers as its model) and the arguments and the table of forms read afterwards as before; condition: the table of forms reads as the program's text lays it (the card ties it; the pruned copy's other packages are not spoken of). -/
import Derived.Test.YtamoakodlmjbiaaDoorAddS
import Derived.Test.YtamoakodlmjbiaaDoorCards
import Derived.Test.YtamoakodlmjbiaaDoorTie
import Derived.WalkSmall
namespace Go.Proofs.YtamoakodlmjbiaaDoor.fnExactAddWords
open Go.ChangeShapes Go.WideShapes Go.ChangeAt Go.RowKit
open fnExactFuseWords (Tests tests nilB nil83B i_bad i_nan i_fin i_c i_infA i_infB i_infC)
set_option linter.unusedVariables false
theorem inf_word (a : Int) (a0 : 0 ≤ a) (a1 : a < 4294967296) (S : Bool) (hS : decide (2147483648 ≤ a) = S) (hk : kindI (a % 2147483648) = 2) : sgn_w S 2139095040 = a := by
  subst hS
  have h : a % 2147483648 = 2139095040 := by
    unfold kindI at hk
    (repeat' split at hk) <;> omega
  unfold sgn_w
  by_cases h2 : 2147483648 ≤ a
  · simp [h2]; omega
  · simp [h2]; omega
set_option maxHeartbeats 1000000 in
theorem both (a b mode : Int) (a0 : 0 ≤ a) (a1 : a < 4294967296) (b0 : 0 ≤ b) (b1 : b < 4294967296) : ∃ R : Int,
    (∀ w : World, Calls Tryd.prog 23 #[.int .u32 a, .int .u32 b, .int .i64 mode] w fun e w' => e = .returned (.int .u32 R) ∧ Below w.heap.size w w') ∧
    (∀ w : World, Forms w → Calls Tryd.prog 24 #[.int .u32 a, .int .u32 b, .int .i64 mode] w fun e w' => e = .returned (.int .u32 R) ∧ Below w.heap.size w w') := by
  by_cases hm : 0 ≤ mode ∧ mode ≤ 4
  case neg => exact ⟨0, fun w => s_bad a b mode hm w, fun w _ => i_of a b mode 0 w (i_bad a 1065353216 b mode hm w)⟩
  obtain ⟨x, hx⟩ : ∃ x, kindI (a % 2147483648) = x := ⟨_, rfl⟩
  obtain ⟨y, hy⟩ : ∃ y, kindI (b % 2147483648) = y := ⟨_, rfl⟩
  obtain ⟨SA, hSA⟩ : ∃ s, decide (2147483648 ≤ a) = s := ⟨_, rfl⟩
  obtain ⟨SB, hSB⟩ : ∃ s, decide (2147483648 ≤ b) = s := ⟨_, rfl⟩
  have h1 : kindI (1065353216 % 2147483648) = 1 := by decide
  have hS1 : decide ((2147483648 : Int) ≤ 1065353216) = false := by decide
  have o0 : (0 : Int) ≤ 1065353216 := by decide
  have o1 : (1065353216 : Int) < 4294967296 := by decide
  have xb := kind_bd (a % 2147483648)
  have yb := kind_bd (b % 2147483648)
  rw [hx] at xb
  rw [hy] at yb
  have eS : (SA != false) = SA := by cases SA <;> rfl
  have TA := tests a x SA a0 a1 hx hSA
  have TB := tests b y SB b0 b1 hy hSB
  by_cases hn : x = 3 ∨ y = 3
  · exact ⟨_, fun w => s_of a b mode _ hm w (s_nan a b mode x y SA SB xb yb TA TB w hn), fun w G => i_of a b mode _ w (i_nan a 1065353216 b mode x 1 y hm a0 a1 o0 o1 b0 b1 hx h1 hy w G (by omega))⟩
  by_cases x2 : x = 2
  · have ha := inf_word a a0 a1 SA hSA (by rw [hx, x2])
    by_cases y2 : y = 2
    · have hb := inf_word b b0 b1 SB hSB (by rw [hy, y2])
      by_cases hab : a = b
      · have hss : SB = (SA != false) := by rw [eS, ← hSA, ← hSB, hab]
        have hi := fun w G => i_infB a 1065353216 b mode x 1 y SA false SB hm a0 a1 o0 o1 b0 b1 hx h1 hy hSA hS1 hSB w G hss ⟨Or.inl ⟨x2, Or.inl rfl⟩, y2⟩
        rw [eS, ha] at hi
        subst hab
        rw [x2] at TA
        exact ⟨a, fun w => s_of a a mode _ hm w (s_infaa a mode SA TA w), fun w G => i_of a a mode _ w (hi w G)⟩
      · have hss : SB ≠ (SA != false) := by
          rw [eS]; intro h; apply hab; rw [← ha, ← hb, h]
        exact ⟨_, fun w => s_of a b mode _ hm w (s_nan2 a b mode x y SA SB xb yb TA TB w hab ⟨x2, y2⟩), fun w G => i_of a b mode _ w (i_infC a 1065353216 b mode x 1 y SA false SB hm a0 a1 o0 o1 b0 b1 hx h1 hy hSA hS1 hSB w G hss ⟨Or.inl ⟨x2, Or.inl rfl⟩, y2⟩)⟩
    · have hi := fun w G => i_infA a 1065353216 b mode x 1 y SA false SB hm a0 a1 o0 o1 b0 b1 hx h1 hy hSA hS1 hSB w G ⟨Or.inl ⟨x2, Or.inl rfl⟩, by omega⟩
      rw [eS, ha] at hi
      exact ⟨a, fun w => s_of a b mode _ hm w (s_infa a b mode x y SA SB xb yb TA TB w ⟨x2, by omega⟩), fun w G => i_of a b mode _ w (hi w G)⟩
  have hxx : x = 0 ∨ x = 1 := by omega
  by_cases y2 : y = 2
  · exact ⟨b, fun w => s_of a b mode _ hm w (s_infb a b mode x y SA SB xb yb TA TB w ⟨hxx, y2⟩), fun w G => i_of a b mode _ w (i_c a 1065353216 b mode x 1 y SA false SB hm a0 a1 o0 o1 b0 b1 hx h1 hy hSA hS1 hSB w G ⟨hxx, Or.inr rfl, y2⟩)⟩
  have hyy : y = 0 ∨ y = 1 := by omega
  have kd : ∀ (u k : Int), 0 ≤ u → u < 4294967296 → kindI (u % 2147483648) = k → (k = 0 ∨ k = 1) → u % 2147483648 < 2139095040 ∧ (k = 0 → exS (u % 2147483648) = 0 ∧ exP (u % 2147483648) = -149) ∧ (k = 1 → 0 < exS (u % 2147483648) ∧ 0 < u % 2147483648) := by
    intro u k u0 u1 h hk
    unfold kindI at h
    unfold exS exP
    refine ⟨?_, fun h0 => ?_, fun h0 => ?_⟩ <;> (repeat' split at h) <;> (repeat' split) <;> omega
  obtain ⟨la, la0, la1⟩ := kd a x a0 a1 hx hxx
  obtain ⟨lb, lb0, lb1⟩ := kd b y b0 b1 hy hyy
  clear kd
  have sbA := exS_bd (a % 2147483648) (by omega)
  have pbA := exP_bd (a % 2147483648) (by omega) (by omega)
  have sbB := exS_bd (b % 2147483648) (by omega)
  have pbB := exP_bd (b % 2147483648) (by omega) (by omega)
  have HE : ∀ v : World, Forms v → Calls Tryd.prog 64 #[.int .u32 b, .int .i64 0] v fun e w' => e = .returned (.agg #[.bool SB, .int .u64 (exS (b % 2147483648)), .int .i64 (exP (b % 2147483648)), .bool false]) ∧ Below v.heap.size v w' := fun v Gv => by
    have h := exactOf_w b b0 b1 v Gv
    rw [hSB] at h
    exact h
  have pA := fun v : World => sParts_any a a0 a1 v
  have pB := fun v : World => sParts_any b b0 b1 v
  rw [hSA] at pA
  rw [hSB] at pB
  obtain ⟨S, hS⟩ : ∃ S, exS (a % 2147483648) = S := ⟨_, rfl⟩
  obtain ⟨p, hp⟩ : ∃ E, exP (a % 2147483648) = E := ⟨_, rfl⟩
  obtain ⟨T, hT⟩ : ∃ S, exS (b % 2147483648) = S := ⟨_, rfl⟩
  obtain ⟨q, hq⟩ : ∃ E, exP (b % 2147483648) = E := ⟨_, rfl⟩
  rw [hS] at sbA la0 la1 pA
  rw [hp] at pbA la0 pA
  rw [hT] at sbB lb0 lb1 pB HE
  rw [hq] at pbB lb0 pB HE
  obtain ⟨s, rfl⟩ := Int.eq_ofNat_of_zero_le sbA.1
  obtain ⟨t, rfl⟩ := Int.eq_ofNat_of_zero_le sbB.1
  obtain ⟨g, hg⟩ : ∃ z, s * 8388608 = z := ⟨_, rfl⟩
  have g1 : g < 281474976710656 := by omega
  have hgI : (s : Int) * 8388608 = (g : Int) := by omega
  have HP : ∀ v : World, Forms v → Calls Tryd.prog 59 #[.int .u32 a, .int .u32 1065353216] v fun e w' => e = .returned (.agg #[.bool (SA != false), .int .u64 (g : Int), .int .i64 (p + -23), .bool false]) ∧ Below v.heap.size v w' := fun v Gv =>
    prod59 a 1065353216 a0 a1 o0 o1 v Gv (s : Int) 8388608 0 0 p (-23) (g : Int) (p + -23) SA false hSA hS1 hS (by decide) hp (by decide) sbA.1 sbA.2 (by decide) (by decide) pbA.1 pbA.2 (by decide) (by decide) hgI (by omega) (by omega) rfl
  have impl := fun (R : Int) (HR : ∀ v : World, Forms v → Calls Tryd.prog 63 #[.agg #[.bool SA, .int .u64 (g : Int), .int .i64 (p + -23), .bool false], .agg #[.bool SB, .int .u64 (t : Int), .int .i64 q, .bool false], .int .i64 mode] v fun e w' => e = .returned (.int .u32 R) ∧ Below v.heap.size v w') (w : World) (G : Forms w) =>
    i_of a b mode R w (i_fin a 1065353216 b mode x 1 y SA false SB hm a0 a1 o0 o1 b0 b1 hx h1 hy hSA hS1 hSB w G R (g : Int) (p + -23) (t : Int) q HP HE (by rw [eS]; exact HR) ⟨hxx, Or.inr rfl, hyy⟩)
  by_cases nn : x = 0 ∧ y = 0
  · obtain ⟨s0, _⟩ := la0 nn.1
    obtain ⟨t0, _⟩ := lb0 nn.2
    have s0' : s = 0 := by omega
    have t0' : t = 0 := by omega
    have g0' : g = 0 := by omega
    refine ⟨_, fun w => s_of a b mode _ hm w (s_nn a b mode x y SA SB xb yb TA TB w nn), impl _ (fun v Gv => ?_)⟩
    subst g0' t0'
    by_cases hn : SA = SB
    · have h := rs_same SB SB false 0 (p + -23) 0 q q mode v (sum_nilx SB SB (p + -23) 0 q) Gv
      have e : nilB SA SB mode = SB := by unfold nilB; rw [hn]; simp
      rw [e, hn]
      exact h
    · have hn2 : (SA == SB) = false := by cases h : (SA == SB); rfl; exact absurd (eq_of_beq h) hn
      have h := rs_diff SA SB SB false 0 (p + -23) 0 q q mode v hn2 (sum_nilx SA SB (p + -23) 0 q) Gv
      have e : nilB SA SB mode = decide (mode = 4) := by unfold nilB; rw [hn2]; rfl
      rw [e]
      exact h
  have cnd : (x = 0 ∨ x = 1) ∧ (y = 0 ∨ y = 1) ∧ ¬ (x = 0 ∧ y = 0) := ⟨hxx, hyy, nn⟩
  obtain ⟨X, hX⟩ : ∃ X, sgI SA (s : Int) = X := ⟨_, rfl⟩
  obtain ⟨Y, hY⟩ : ∃ Y, sgI SB (t : Int) = Y := ⟨_, rfl⟩
  have X0 : -16777216 < X := by rw [← hX]; cases SA <;> simp [sgI] <;> omega
  have X1 : X < 16777216 := by rw [← hX]; cases SA <;> simp [sgI] <;> omega
  have Y0 : -16777216 < Y := by rw [← hY]; cases SB <;> simp [sgI] <;> omega
  have Y1 : Y < 16777216 := by rw [← hY]; cases SB <;> simp [sgI] <;> omega
  rw [hX] at pA
  rw [hY] at pB
  obtain ⟨F, M, hF, hM, HPl⟩ : ∃ F M : Int, (F = p ∧ p ≤ q ∨ F = q ∧ q ≤ p) ∧ M = sgI SA (s : Int) * 2 ^ (p - F).toNat + sgI SB (t : Int) * 2 ^ (q - F).toNat ∧
      (∀ v : World, Calls Tryd.prog 84 #[.agg #[.int .i64 X, .bool false, .slice none 0 0, .int .i64 1, .bool false, .slice none 0 0, .int .i64 p], .agg #[.int .i64 Y, .bool false, .slice none 0 0, .int .i64 1, .bool false, .slice none 0 0, .int .i64 q]] v fun e w' => ∃ V g pp l c, e = .returned (.agg #[.int .i64 V, .bool g, .slice pp l c, .int .i64 1, .bool false, .slice none 0 0, .int .i64 F]) ∧ Num w' 200 (.agg #[.int .i64 V, .bool g, .slice pp l c]) M ∧ Below v.heap.size v w') := by
    by_cases hle : p ≤ q
    · refine ⟨p, X + Y * 2 ^ (q - p).toNat, Or.inl ⟨rfl, hle⟩, ?_, fun v => plus84_le X Y p q (q - p).toNat (by omega) (by omega) (by omega) (by omega) (by omega) (by omega) (by omega) (by omega) (by omega) (by omega) v⟩
      rw [hX, hY, show (p - p).toNat = 0 by omega]; simp
    · refine ⟨q, Y + X * 2 ^ (p - q).toNat, Or.inr ⟨rfl, by omega⟩, ?_, fun v => plus84_gt X Y p q (p - q).toNat (by omega) (by omega) (by omega) (by omega) (by omega) (by omega) (by omega) (by omega) (by omega) (by omega) (by omega) v⟩
      rw [hX, hY, show (q - q).toNat = 0 by omega]; simp [Int.add_comm]
  have big := T_big SA SB s t p q F M (by omega) (by omega) (by omega) (by omega) (by omega) (by omega) hF hM
  have fin := fun (R : Int) (r0 : 0 ≤ R) (r1 : R < 4294967296) (Mn : M ≠ 0) (hs : ∀ (v : World) (K L : Nat) (VP VQ : Int) (gP gQ : Bool) (pP pQ : Option Addr) (lP cP lQ cQ : Nat), Num v K (.agg #[.int .i64 VP, .bool gP, .slice pP lP cP]) M → Num v L (.agg #[.int .i64 VQ, .bool gQ, .slice pQ lQ cQ]) 1 → 2 ≤ K → K ≤ 9000 →
        Calls Tryd.prog 40 #[.agg #[.int .i64 VP, .bool gP, .slice pP lP cP, .int .i64 VQ, .bool gQ, .slice pQ lQ cQ, .int .i64 F], .agg #[.int .i64 24, .int .i64 (-149), .int .i64 104], .int .i64 mode] v fun e w' => e = .returned (.int .i64 R) ∧ Below v.heap.size v w') (w : World) =>
    s_of a b mode R hm w (s_sum a b mode x y SA SB xb yb TA TB w X Y p q pA pB F X0 X1 Y0 Y1 M HPl Mn R r0 r1 (fun v K VP gP pP lP cP NP k2 k9 => hs v K 3 VP 1 gP false pP none lP cP 0 0 NP (num_small v 3 1 (by decide) (by decide)) k2 k9) cnd)
  by_cases x0 : x = 0
  · obtain ⟨s0, p149⟩ := la0 x0
    have y1 : y = 1 := by omega
    obtain ⟨t0, _⟩ := lb1 y1
    have s0' : s = 0 := by omega
    have g0' : g = 0 := by omega
    have Fp : F = p := by omega
    have hM2 : M = Y * 2 ^ (q - F).toNat := by rw [hM, s0', hY]; cases SA <;> simp [sgI]
    have hMa : M.natAbs = t * 2 ^ (q - F).toNat := by
      rw [hM2, Int.natAbs_mul, Int.natAbs_pow, show Y.natAbs = t by rw [← hY]; cases SB <;> simp [sgI]]; rfl
    have pd : (0 : Int) < 2 ^ (q - F).toNat := by have := p2 (q - F).toNat; exact_mod_cast this
    have Mn : M ≠ 0 := by
      intro h; rw [h] at hMa
      have : 0 < t * 2 ^ (q - F).toNat := Nat.mul_pos (by omega) (p2 _)
      simp at hMa; omega
    have hs : decide (M < 0) = SB := by
      rw [hM2, ← hY]
      cases SB
      · simp only [sgI]
        refine decide_eq_false ?_
        have := Int.mul_nonneg (show (0 : Int) ≤ (t : Int) by omega) (Int.le_of_lt pd)
        simp; omega
      · simp only [sgI]
        refine decide_eq_true ?_
        exact Int.mul_neg_of_neg_of_pos (by simp; omega) pd
    obtain ⟨R, r0, r1, hi, hsp⟩ := one_both SB t q mode hm.1 hm.2 (by omega) (by omega) (by omega) (by omega) M F Mn (by omega) (by omega) hs big (by
      rw [hMa, Nat.mul_assoc, Nat.mul_assoc, ← Nat.pow_add, ← Nat.pow_add, Nat.mul_assoc, ← Nat.pow_add]
      congr 2
      omega)
    refine ⟨R, fin R r0 r1 Mn hsp, impl R (fun v Gv => ?_)⟩
    subst g0'
    exact rs_num SA SB SB false 0 (p + -23) (t : Int) q (t : Int) q mode R v (by omega) (sum_nilx SA SB (p + -23) (t : Int) q) hi Gv
  have x1 : x = 1 := by omega
  obtain ⟨s0, _⟩ := la1 x1
  by_cases y0 : y = 0
  · obtain ⟨t0, q149⟩ := lb0 y0
    have t0' : t = 0 := by omega
    have Fq : F = q := by omega
    have hM2 : M = X * 2 ^ (p - F).toNat := by rw [hM, t0', hX]; cases SB <;> simp [sgI]
    have hMa : M.natAbs = s * 2 ^ (p - F).toNat := by
      rw [hM2, Int.natAbs_mul, Int.natAbs_pow, show X.natAbs = s by rw [← hX]; cases SA <;> simp [sgI]]; rfl
    have pd : (0 : Int) < 2 ^ (p - F).toNat := by have := p2 (p - F).toNat; exact_mod_cast this
    have Mn : M ≠ 0 := by
      intro h; rw [h] at hMa
      have : 0 < s * 2 ^ (p - F).toNat := Nat.mul_pos (by omega) (p2 _)
      simp at hMa; omega
    have hs : decide (M < 0) = SA := by
      rw [hM2, ← hX]
      cases SA
      · simp only [sgI]
        refine decide_eq_false ?_
        have := Int.mul_nonneg (show (0 : Int) ≤ (s : Int) by omega) (Int.le_of_lt pd)
        simp; omega
      · simp only [sgI]
        refine decide_eq_true ?_
        exact Int.mul_neg_of_neg_of_pos (by simp; omega) pd
    obtain ⟨R, r0, r1, hi, hsp⟩ := one_both SA g (p + -23) mode hm.1 hm.2 (by omega) (by omega) (by omega) (by omega) M F Mn (by omega) (by omega) hs big (by
      rw [hMa, ← hg, show (8388608 : Nat) = 2 ^ 23 by decide, Nat.mul_assoc, Nat.mul_assoc, ← Nat.pow_add, ← Nat.pow_add, Nat.mul_assoc, Nat.mul_assoc, ← Nat.pow_add, ← Nat.pow_add]
      congr 2
      omega)
    refine ⟨R, fin R r0 r1 Mn hsp, impl R (fun v Gv => ?_)⟩
    subst t0'
    exact rs_num SA SB SA false (g : Int) (p + -23) 0 q (g : Int) (p + -23) mode R v (by omega) (sum_nily SA SB (g : Int) (p + -23) q (by omega)) hi Gv
  · have y1 : y = 1 := by omega
    obtain ⟨t0, _⟩ := lb1 y1
    rcases add_both SA SB s t p q mode hm.1 hm.2 (by omega) (by omega) (by omega) (by omega) (by omega) (by omega) (by omega) (by omega) F M hF hM g hg with ⟨M0, hi⟩ | ⟨M0, R, r0, r1, hi, hs⟩
    · exact ⟨_, fun w => s_of a b mode _ hm w (s_sum0 a b mode x y SA SB xb yb TA TB w X Y p q pA pB F X0 X1 Y0 Y1 M HPl M0 cnd), impl _ hi⟩
    · exact ⟨R, fin R r0 r1 M0 hs, impl R hi⟩
theorem walk (a0 : Int) (a1 : Int) (a2 : Int) (w0 : (Lit.int .u32 a0).wf = true) (w1 : (Lit.int .u32 a1).wf = true) (_w2 : (Lit.int .i64 a2).wf = true) (w : World) (G : Forms w) :
    Calls Tryd.prog 5 #[.int .u32 a0, .int .u32 a1, .int .i64 a2] w fun e w' => e = .returned (.bool true) ∧ Below w.heap.size w w' := by
  have b0 := bounds_u32 w0
  have b1 := bounds_u32 w1
  obtain ⟨R, hs, hi⟩ := both a0 a1 a2 (by omega) (by omega) (by omega) (by omega)
  go_enter Tryd.func5, Tryd.ntmps5
  go_wp2_with (first | (go_at_call 23; refine (hs _).mono ?_; rintro e w1 ⟨rfl, hb1⟩) | (go_at_call 24; refine (hi _ (G.next hb1)).mono ?_; rintro e w2 ⟨rfl, hb2⟩))
  go_ret
  exact ⟨rfl, hb1.trans (hb2.mono hb1.size)⟩
theorem laid_met (os : Os) : laidMet Tryd.prog Rows.fnExactAddWordsRow.laid ((laidWorld os).forCall (fun _ _ => 0) ⟨#[], #[.int .u32 0, .int .u32 0, .int .i64 0], []⟩).memory :=
  laidMet_of_run' 8 (by kernel_rfl) (by kernel_rfl)
set_option maxRecDepth 100000 in
theorem lifted (os : Os) (started : os.Started) (H : Type) (enc : TypeId × Value → H) :
    ReturnsInHanded {} Tryd.checked os 5 .any (fun w args => (Rows.fnExactAddWordsSpec.pre enc Tryd.prog Tryd.f5 [] false w args ∧ laidMetH Tryd.prog Rows.fnExactAddWordsRow.laid w) ∧ sizedMet enc Tryd.prog Tryd.f5 (OpenSpec.ofChange Rows.fnExactAddWordsSpec) false w args)
      (Rows.fnExactAddWordsSpec.post enc Tryd.prog Tryd.f5 false true false false) := by
  refine returnsInHanded_of_change_and (C := Tryd.checked) (X := fun w _ => laidMetH Tryd.prog Rows.fnExactAddWordsRow.laid w) (fun _ _ _ hh h => h.of_heap hh) own started (by kernel_rfl) Tryd.func5
    (ChangeSpec.witness_at (enc := enc) (C := Tryd.checked) (os := os) (X := fun w _ => laidMetH Tryd.prog Rows.fnExactAddWordsRow.laid w) false (laidWorld os) #[.int .u32 0, .int .u32 0, .int .i64 0] 8 rfl (by kernel_rfl) (by kernel_rfl) (by kernel_rfl) (by kernel_rfl) (by kernel_rfl) (laid_met os)) ?_
  intro W base args ds gs before hval0 hW _ _ hL _
  have hval : ∀ (j : Nat) t v, Tryd.f5.params[j]? = some t → args[j]? = some v → Value.okWide Tryd.prog W .any base t v := hval0
  have hW' := hW
  obtain ⟨p, q, hA0, hV0, rfl, hfz, hnd⟩ := hW
  have hA : DataW.TrodAll enc Tryd.prog W 0 (fun _ => true) true Tryd.f5.params.toList args.toList ds p := hA0
  have hV : DataW.TrodVars enc Tryd.prog W (fun _ => true) ["loop.example/g00053/impl.floatForms"] gs q := hV0
  rw [Tryd.params5] at hA hval
  obtain ⟨v0, vs0, d0, ds0, p0, q0, hargs, rfl, rfl, h0, r0⟩ := trodAll_cons hA
  obtain ⟨v1, vs1, d1, ds1, p1, q1, rfl, rfl, rfl, h1, r1⟩ := trodAll_cons r0
  obtain ⟨v2, vs2, d2, ds2, p2, q2, rfl, rfl, rfl, h2, r2⟩ := trodAll_cons r1
  obtain ⟨rfl, rfl, rfl⟩ := trodAll_nil r2
  obtain rfl : args = #[v0, v1, v2] := by cases args; simp_all
  obtain ⟨a0, rfl, rfl, rfl, w0⟩ := open_int Tryd.underlying23 (hval 0 23 v0 rfl rfl) h0
  obtain ⟨a1, rfl, rfl, rfl, w1⟩ := open_int Tryd.underlying23 (hval 1 23 v1 rfl rfl) h1
  obtain ⟨a2, rfl, rfl, rfl, w2⟩ := open_int Tryd.underlying3 (hval 2 3 v2 rfl rfl) h2
  obtain ⟨g, t, cs, fuel, d, p', rfl, hg, ht, hvar, hd, rfl⟩ := trodVars_one hV
  obtain rfl := Option.some.inj (gTab.symm.trans hg)
  obtain rfl := Option.some.inj (gTabType.symm.trans ht)
  obtain rfl : cs = cells8 := Option.some.inj (hvar.symm.trans (cells_of_laid hL))
  obtain ⟨rfl, rfl⟩ := DataW.Trod.unique (v := .agg cells8) ⟨fuel, hd⟩ ⟨4, reads_table enc W _⟩
  clear hA0 hV0 hval0
  refine (walk a0 a1 a2 w0 w1 w2 W (forms_of_laid hL)).mono fun e W' ⟨he, bel⟩ => ?_
  subst he
  have hv' : W'.var? Tryd.prog "loop.example/g00053/impl.floatForms" = some cells8 := var?_below bel gTab (forms_of_laid hL).pos hvar
  exact ⟨_, rfl, _, _, _, [], [], MemPlace.row ⟨0, 0, none⟩ cells8.size ++ [] ++ [], hW', trodAll_cons_mk (shut_bool Tryd.underlying4 _) trodAll_mk0, (trodAll_cons_mk (shut_int Tryd.underlying23 w0) (trodAll_cons_mk (shut_int Tryd.underlying23 w1) (trodAll_cons_mk (shut_int Tryd.underlying3 w2) trodAll_mk0))), ⟨0, 50, cells8, 4, [], [], hg, ht, hv', reads_table enc W' _, rfl, rfl⟩, bel.frame _, fun h => by cases h⟩

theorem said : Rows.FnExactAddWordsSaid :=
  OpenClaim.holds_of_wide 5 Tryd.f5 rfl rfl rfl rfl rfl rfl rfl ⟨rfl, rfl, rfl, rfl, rfl⟩ rfl rfl rfl rfl rfl (by kernel_rfl) Tryd.func5 (by kernel_rfl)
    (of_decide_eq_true (by kernel_rfl)) (by unfold Func.isWrapper; first | (rw [if_pos (by decide +kernel)]; kernel_rfl) | (rw [if_neg (by decide +kernel)]; exact ⟨rfl, rfl⟩))
    (fun os started H enc _ => lifted os started H enc)

theorem plain (f : FuncId) (fn : Func) (hf : Tryd.pinned.checked.prog.funcNamed "loop.example/g00053/laws.FnExactAddWords" = some f) (hfn : Tryd.pinned.checked.prog.funcs[f]? = some fn) :
    false = Tryd.pinned.checked.prog.looks [] ∧ ∀ (j : Nat) t, fn.params[j]? = some t → Tryd.pinned.checked.prog.wantsStandIn t = false := by
  obtain rfl : f = 5 := Option.some.inj ((show Tryd.prog.funcNamed "loop.example/g00053/laws.FnExactAddWords" = some 5 by kernel_rfl).symm.trans hf) |>.symm
  obtain rfl : fn = Tryd.f5 := (Option.some.inj (Tryd.func5.symm.trans hfn)).symm
  refine ⟨by kernel_rfl, fun j t ht => ?_⟩
  rw [Tryd.params5] at ht
  rcases (by simpa using Array.mem_of_getElem? ht : t = 23 ∨ t = 3) with rfl | rfl
  · exact (show Tryd.prog.wantsStandIn 23 = false by kernel_rfl)
  · exact (show Tryd.prog.wantsStandIn 3 = false by kernel_rfl)

theorem card : Rows.FnExactAddWordsCardSaid :=
  Claim7.holds_tied_plain_at .later [] _ _ _ _ said (fun _ h => by cases h) (by kernel_rfl) (fun _ h => by cases h) fnExactAddWords_row_tie rfl ⟨rfl, rfl⟩ (by kernel_rfl) rfl plain (by kernel_rfl)

end Go.Proofs.YtamoakodlmjbiaaDoor.fnExactAddWords
namespace Go.Proofs.YtamoakodlmjbiaaDoor
theorem add_words_holds : Rows.FnExactAddWordsCardSaid := fnExactAddWords.card
#print axioms add_words_holds
end Go.Proofs.YtamoakodlmjbiaaDoor
