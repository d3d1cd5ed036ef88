/- Proved: for every three words a, b, c of 32 bits and every int mode the law FnExactFuseWords returns true (FuseWords answers as its model) and the arguments and the table of forms read afterwards as before; condition: the table of forms reads as the program's text lays it (the card ties it; the pruned copy's other packages are not spoken of). -/
import Derived.Test.YtamoakodlmjbiaaDoorFuseT
import Derived.Test.YtamoakodlmjbiaaDoorCards
import Derived.Test.YtamoakodlmjbiaaDoorTie
import Derived.WalkSmall
namespace Go.Proofs.YtamoakodlmjbiaaDoor.fnExactFuseWords
open Go.ChangeShapes Go.WideShapes Go.ChangeAt Go.RowKit
set_option linter.unusedVariables false
/-- Both sides answer alike: one number for each three words and mode. -/
theorem both (a b c mode : Int) (a0 : 0 ≤ a) (a1 : a < 4294967296) (b0 : 0 ≤ b) (b1 : b < 4294967296) (c0 : 0 ≤ c) (c1 : c < 4294967296) : ∃ R : Int,
    (∀ w : World, Calls Tryd.prog 29 #[.int .u32 a, .int .u32 b, .int .u32 c, .int .i64 mode] w fun e w' => e = .returned (.int .u32 R) ∧ Below w.heap.size w w') ∧
    (∀ w : World, Forms w → Calls Tryd.prog 30 #[.int .u32 a, .int .u32 b, .int .u32 c, .int .i64 mode] w fun e w' => e = .returned (.int .u32 R) ∧ Below w.heap.size w w') := by
  by_cases hm : 0 ≤ mode ∧ mode ≤ 4
  case neg => exact ⟨0, fun w => s_bad a b c mode hm w, fun w _ => i_bad a b c mode hm w⟩
  obtain ⟨x, hx⟩ : ∃ x, kindI (a % 2147483648) = x := ⟨_, rfl⟩
  obtain ⟨y, hy⟩ : ∃ y, kindI (b % 2147483648) = y := ⟨_, rfl⟩
  obtain ⟨z, hz⟩ : ∃ z, kindI (c % 2147483648) = z := ⟨_, rfl⟩
  obtain ⟨SA, hSA⟩ : ∃ s, decide (2147483648 ≤ a) = s := ⟨_, rfl⟩
  obtain ⟨SB, hSB⟩ : ∃ s, decide (2147483648 ≤ b) = s := ⟨_, rfl⟩
  obtain ⟨SC, hSC⟩ : ∃ s, decide (2147483648 ≤ c) = s := ⟨_, rfl⟩
  have xb := kind_bd (a % 2147483648)
  have yb := kind_bd (b % 2147483648)
  have zb := kind_bd (c % 2147483648)
  rw [hx] at xb
  rw [hy] at yb
  rw [hz] at zb
  have TA := tests a x SA a0 a1 hx hSA
  have TB := tests b y SB b0 b1 hy hSB
  have TC := tests c z SC c0 c1 hz hSC
  by_cases h1 : x = 3 ∨ y = 3 ∨ z = 3 ∨ x = 0 ∧ y = 2 ∨ x = 2 ∧ y = 0
  · exact ⟨_, fun w => s_of a b c mode _ hm w (s_nan a b c mode x y z SA SB SC xb yb zb TA TB TC w h1), fun w G => i_nan a b c mode x y z hm a0 a1 b0 b1 c0 c1 hx hy hz w G h1⟩
  by_cases h2 : (x = 2 ∧ (y = 1 ∨ y = 2) ∨ x = 1 ∧ y = 2)
  · by_cases h3 : z = 2
    · by_cases hs : SC = (SA != SB)
      · exact ⟨_, fun w => s_of a b c mode _ hm w (s_infB a b c mode x y z SA SB SC xb yb zb TA TB TC w hs ⟨h2, h3⟩), fun w G => i_infB a b c mode x y z SA SB SC hm a0 a1 b0 b1 c0 c1 hx hy hz hSA hSB hSC w G hs ⟨h2, h3⟩⟩
      · exact ⟨_, fun w => s_of a b c mode _ hm w (s_infC a b c mode x y z SA SB SC xb yb zb TA TB TC w hs ⟨h2, h3⟩), fun w G => i_infC a b c mode x y z SA SB SC hm a0 a1 b0 b1 c0 c1 hx hy hz hSA hSB hSC w G hs ⟨h2, h3⟩⟩
    · have h4 : z = 0 ∨ z = 1 := by omega
      exact ⟨_, fun w => s_of a b c mode _ hm w (s_infA a b c mode x y z SA SB SC xb yb zb TA TB TC w ⟨h2, h4⟩), fun w G => i_infA a b c mode x y z SA SB SC hm a0 a1 b0 b1 c0 c1 hx hy hz hSA hSB hSC w G ⟨h2, h4⟩⟩
  have hxx : x = 0 ∨ x = 1 := by omega
  have hyy : y = 0 ∨ y = 1 := by omega
  by_cases h3 : z = 2
  · exact ⟨_, fun w => s_of a b c mode _ hm w (s_c a b c mode x y z SA SB SC xb yb zb TA TB TC w ⟨hxx, hyy, h3⟩), fun w G => i_c a b c mode x y z SA SB SC hm a0 a1 b0 b1 c0 c1 hx hy hz hSA hSB hSC w G ⟨hxx, hyy, h3⟩⟩
  have hzz : z = 0 ∨ z = 1 := by omega
  have fin : (x = 0 ∨ x = 1) ∧ (y = 0 ∨ y = 1) ∧ (z = 0 ∨ z = 1) := ⟨hxx, hyy, hzz⟩
  have kd : ∀ (u k : Int), 0 ≤ u → u < 4294967296 → kindI (u % 2147483648) = k → (k = 0 ∨ k = 1) → u % 2147483648 < 2139095040 ∧ (k = 0 → exS (u % 2147483648) = 0) ∧ (k = 1 → 0 < exS (u % 2147483648) ∧ 0 < u % 2147483648) := by
    intro u k u0 u1 h hk
    unfold kindI at h
    unfold exS
    refine ⟨?_, fun h0 => ?_, fun h0 => ?_⟩ <;> (repeat' split at h) <;> (repeat' split) <;> omega
  obtain ⟨la, la0, la1⟩ := kd a x a0 a1 hx hxx
  obtain ⟨lb, lb0, lb1⟩ := kd b y b0 b1 hy hyy
  obtain ⟨lc, lc0, lc1⟩ := kd c z c0 c1 hz hzz
  clear kd
  have sbA := exS_bd (a % 2147483648) (by omega)
  have pbA := exP_bd (a % 2147483648) (by omega) (by omega)
  have sbB := exS_bd (b % 2147483648) (by omega)
  have pbB := exP_bd (b % 2147483648) (by omega) (by omega)
  have sbC := exS_bd (c % 2147483648) (by omega)
  have pbC := exP_bd (c % 2147483648) (by omega) (by omega)
  have HE : ∀ v : World, Forms v → Calls Tryd.prog 64 #[.int .u32 c, .int .i64 0] v fun e w' => e = .returned (.agg #[.bool SC, .int .u64 (exS (c % 2147483648)), .int .i64 (exP (c % 2147483648)), .bool false]) ∧ Below v.heap.size v w' := fun v Gv => by
    have h := exactOf_w c c0 c1 v Gv
    rw [hSC] at h
    exact h
  have wb : 0 < c % 2147483648 → ∀ v : World, Forms v → Calls Tryd.prog 52 #[.agg #[.bool SC, .int .u64 (exS (c % 2147483648)), .int .i64 (exP (c % 2147483648)), .bool false], .int .i64 0, .int .i64 mode] v fun e w' => e = .returned (.int .u32 c) ∧ Below v.heap.size v w' := fun h0 v Gv => by
    have h := word_back c mode c0 c1 h0 lc v Gv
    rw [hSC] at h
    exact h
  have pA := fun v : World => sParts_any a a0 a1 v
  have pB := fun v : World => sParts_any b b0 b1 v
  have pC := fun v : World => sParts_any c c0 c1 v
  rw [hSA] at pA
  rw [hSB] at pB
  rw [hSC] at pC
  obtain ⟨S, hS⟩ : ∃ S, exS (a % 2147483648) = S := ⟨_, rfl⟩
  obtain ⟨p, hp⟩ : ∃ E, exP (a % 2147483648) = E := ⟨_, rfl⟩
  obtain ⟨T, hT⟩ : ∃ S, exS (b % 2147483648) = S := ⟨_, rfl⟩
  obtain ⟨q, hq⟩ : ∃ E, exP (b % 2147483648) = E := ⟨_, rfl⟩
  obtain ⟨U, hU⟩ : ∃ S, exS (c % 2147483648) = S := ⟨_, rfl⟩
  obtain ⟨r, hr⟩ : ∃ E, exP (c % 2147483648) = E := ⟨_, rfl⟩
  rw [hS] at sbA la0 la1 pA
  rw [hp] at pbA pA
  rw [hT] at sbB lb0 lb1 pB
  rw [hq] at pbB pB
  rw [hU] at sbC lc0 lc1 pC HE wb
  rw [hr] at pbC pC HE wb
  obtain ⟨s, rfl⟩ := Int.eq_ofNat_of_zero_le sbA.1
  obtain ⟨t, rfl⟩ := Int.eq_ofNat_of_zero_le sbB.1
  obtain ⟨u, rfl⟩ := Int.eq_ofNat_of_zero_le sbC.1
  obtain ⟨g, hg⟩ : ∃ z, s * t = z := ⟨_, rfl⟩
  have g1 : g < 281474976710656 := by
    rw [← hg]
    have h : s * t ≤ 16777215 * 16777215 := Nat.mul_le_mul (by omega) (by omega)
    omega
  have hgI : (s : Int) * (t : Int) = (g : Int) := by rw [← hg]; simp
  have HP : ∀ v : World, Forms v → Calls Tryd.prog 59 #[.int .u32 a, .int .u32 b] v fun e w' => e = .returned (.agg #[.bool (SA != SB), .int .u64 (g : Int), .int .i64 (p + q), .bool false]) ∧ Below v.heap.size v w' := fun v Gv =>
    prod59 a b a0 a1 b0 b1 v Gv _ _ 0 0 _ _ (g : Int) (p + q) SA SB hSA hSB hS hT hp hq sbA.1 sbA.2 sbB.1 sbB.2 pbA.1 pbA.2 pbB.1 pbB.2 hgI (by omega) (by omega) rfl
  have impl := fun (R : Int) (HR : ∀ v : World, Forms v → Calls Tryd.prog 63 #[.agg #[.bool (SA != SB), .int .u64 (g : Int), .int .i64 (p + q), .bool false], .agg #[.bool SC, .int .u64 (u : Int), .int .i64 r, .bool false], .int .i64 mode] v fun e w' => e = .returned (.int .u32 R) ∧ Below v.heap.size v w') (w : World) (G : Forms w) =>
    i_fin a b c mode x y z SA SB SC hm a0 a1 b0 b1 c0 c1 hx hy hz hSA hSB hSC w G R (g : Int) (p + q) (u : Int) r HP HE HR fin
  by_cases hg0 : g = 0
  · have hmn : sgI SA (s : Int) = 0 ∨ ¬ sgI SA (s : Int) = 0 ∧ sgI SB (t : Int) = 0 := by
      rw [hg0] at hg
      rcases Nat.mul_eq_zero.mp hg with h | h
      · left; rw [h]; cases SA <;> simp [sgI]
      · by_cases hh : sgI SA (s : Int) = 0
        · exact Or.inl hh
        · right; refine ⟨hh, ?_⟩; rw [h]; cases SB <;> simp [sgI]
    subst hg0
    rcases hzz with h0 | h0
    · have u0 : u = 0 := by have := lc0 h0; omega
      subst u0
      refine ⟨_, fun w => s_of a b c mode _ hm w (s_nn a b c mode x y z SA SB SC xb yb zb TA TB TC w _ _ _ _ pA pB hmn ⟨hxx, hyy, h0⟩), impl _ (fun v Gv => ?_)⟩
      by_cases hn : (SA != SB) = SC
      · have h := rs_same SC SC false 0 (p + q) 0 r r mode v (sum_nilx SC SC (p + q) 0 r) Gv
        have e : nilB (SA != SB) SC mode = SC := by unfold nilB; rw [hn]; simp
        rw [e, hn]
        exact h
      · have hn2 : ((SA != SB) == SC) = false := by cases h : ((SA != SB) == SC); rfl; exact absurd (eq_of_beq h) hn
        have h := rs_diff (SA != SB) SC SC false 0 (p + q) 0 r r mode v hn2 (sum_nilx (SA != SB) SC (p + q) 0 r) Gv
        have e : nilB (SA != SB) SC mode = decide (mode = 4) := by unfold nilB; rw [hn2]; rfl
        rw [e]
        exact h
    · have u0 := lc1 h0
      refine ⟨_, fun w => s_of a b c mode _ hm w (s_nc a b c mode x y z SA SB SC xb yb zb TA TB TC w _ _ _ _ pA pB hmn ⟨hxx, hyy, h0⟩), impl _ (fun v Gv => ?_)⟩
      exact rs_num (SA != SB) SC SC false 0 (p + q) (u : Int) r (u : Int) r mode c v u0.1 (sum_nilx (SA != SB) SC (p + q) (u : Int) r) (wb u0.2) Gv
  · have s0 : 0 < s := by rcases Nat.eq_zero_or_pos s with h | h; exfalso; apply hg0; rw [← hg, h, Nat.zero_mul]; exact h
    have t0 : 0 < t := by rcases Nat.eq_zero_or_pos t with h | h; exfalso; apply hg0; rw [← hg, h, Nat.mul_zero]; exact h
    have x1 : x = 1 := by rcases hxx with h | h; have := la0 h; omega; exact h
    have y1 : y = 1 := by rcases hyy with h | h; have := lb0 h; omega; exact h
    have mA : ¬ sgI SA (s : Int) = 0 := by cases SA <;> simp [sgI] <;> omega
    have mB : ¬ sgI SB (t : Int) = 0 := by cases SB <;> simp [sgI] <;> omega
    obtain ⟨X, hX⟩ : ∃ X, sgI SA (s : Int) * sgI SB (t : Int) = X := ⟨_, rfl⟩
    have hXg : X = sgI (SA != SB) (g : Int) := by
      rw [← hX, ← hgI]; cases SA <;> cases SB <;> simp [sgI, Int.neg_mul, Int.mul_neg]
    have hXa : X.natAbs = g := by rw [hXg]; cases (SA != SB) <;> simp [sgI]
    have hXn : decide (X < 0) = (SA != SB) := by rw [hXg]; cases (SA != SB) <;> simp [sgI] <;> omega
    have X0 : -281474976710656 < X := by omega
    have X1 : X < 281474976710656 := by omega
    rcases hzz with h0 | h0
    · have u0 : u = 0 := by have := lc0 h0; omega
      subst u0
      obtain ⟨R, r0, r1, hi, hs⟩ := whole_both_w (SA != SB) g (p + q) mode X hm.1 hm.2 (by omega) (by omega) (by omega) (by omega) hXa hXn
      refine ⟨R, fun w => s_of a b c mode _ hm w (s_prod a b c mode x y z SA SB SC xb yb zb TA TB TC w _ _ _ _ pA pB X (p + q) R mA mB hX X0 X1 rfl pbA.1 pbA.2 pbB.1 pbB.2 r0 r1 (fun v => ?_) (fun v => ?_) ⟨x1, y1, h0⟩), impl R (fun v Gv => ?_)⟩
      · have h := zZero X v
        rw [decide_eq_false (by omega : ¬ X = 0)] at h
        exact h
      · exact hs v 3 3 X 1 false false none none 0 0 0 0 (num_small v 3 X (by omega) (by omega)) (num_small v 3 1 (by decide) (by decide)) (by decide) (by decide)
      · exact rs_num (SA != SB) SC (SA != SB) false (g : Int) (p + q) 0 r (g : Int) (p + q) mode R v (by omega) (sum_nily (SA != SB) SC (g : Int) (p + q) r (by omega)) hi Gv
    · have u0 := (lc1 h0).1
      obtain ⟨Y, hY⟩ : ∃ Y, sgI SC (u : Int) = Y := ⟨_, rfl⟩
      have Y0 : -16777216 < Y := by rw [← hY]; cases SC <;> simp [sgI] <;> omega
      have Y1 : Y < 16777216 := by rw [← hY]; cases SC <;> simp [sgI] <;> omega
      rw [hY] at pC
      obtain ⟨F, M, hF, hM, HPl⟩ : ∃ F M : Int, (F = p + q ∧ p + q ≤ r ∨ F = r ∧ r ≤ p + q) ∧ M = sgI (SA != SB) (g : Int) * 2 ^ (p + q - F).toNat + sgI SC (u : Int) * 2 ^ (r - F).toNat ∧
          (∀ v : World, Calls Tryd.prog 84 #[.agg #[.int .i64 X, .bool false, .slice none 0 0, .int .i64 1, .bool false, .slice none 0 0, .int .i64 (p + q)], .agg #[.int .i64 Y, .bool false, .slice none 0 0, .int .i64 1, .bool false, .slice none 0 0, .int .i64 r]] v fun e w' => ∃ V g pp l c, e = .returned (.agg #[.int .i64 V, .bool g, .slice pp l c, .int .i64 1, .bool false, .slice none 0 0, .int .i64 F]) ∧ Num w' 200 (.agg #[.int .i64 V, .bool g, .slice pp l c]) M ∧ Below v.heap.size v w') := by
        by_cases hle : p + q ≤ r
        · refine ⟨p + q, X + Y * 2 ^ (r - (p + q)).toNat, Or.inl ⟨rfl, hle⟩, ?_, fun v => plus84_le X Y (p + q) r (r - (p + q)).toNat (by omega) (by omega) (by omega) (by omega) (by omega) (by omega) (by omega) (by omega) (by omega) (by omega) v⟩
          rw [← hXg, hY, show (p + q - (p + q)).toNat = 0 by omega]; simp
        · refine ⟨r, Y + X * 2 ^ (p + q - r).toNat, Or.inr ⟨rfl, by omega⟩, ?_, fun v => plus84_gt X Y (p + q) r (p + q - r).toNat (by omega) (by omega) (by omega) (by omega) (by omega) (by omega) (by omega) (by omega) (by omega) (by omega) (by omega) v⟩
          rw [← hXg, hY, show (r - r).toNat = 0 by omega]; simp [Int.add_comm]
      rcases sum_both (SA != SB) SC g u (p + q) r mode hm.1 hm.2 (by omega) g1 (by omega) (by omega) (by omega) (by omega) (by omega) (by omega) F M hF hM with ⟨M0, hi⟩ | ⟨M0, R, r0, r1, hi, hs⟩
      · exact ⟨_, fun w => s_of a b c mode _ hm w (s_sum0 a b c mode x y z SA SB SC xb yb zb TA TB TC w _ _ _ _ pA pB X (p + q) Y r F mA mB hX X0 X1 Y0 Y1 rfl pbA.1 pbA.2 pbB.1 pbB.2 pC M HPl M0 ⟨x1, y1, h0⟩), impl _ hi⟩
      · exact ⟨R, fun w => s_of a b c mode _ hm w (s_sum a b c mode x y z SA SB SC xb yb zb TA TB TC w _ _ _ _ pA pB X (p + q) Y r F mA mB hX X0 X1 Y0 Y1 rfl pbA.1 pbA.2 pbB.1 pbB.2 pC M HPl M0 R r0 r1 (fun v K VP gP pP lP cP NP k2 k9 => hs v K 3 VP 1 gP false pP none lP cP 0 0 NP (num_small v 3 1 (by decide) (by decide)) k2 k9) ⟨x1, y1, h0⟩), impl R hi⟩
theorem walk (a0 : Int) (a1 : Int) (a2 : Int) (a3 : Int) (w0 : (Lit.int .u32 a0).wf = true) (w1 : (Lit.int .u32 a1).wf = true) (w2 : (Lit.int .u32 a2).wf = true) (_w3 : (Lit.int .i64 a3).wf = true) (w : World) (G : Forms w) :
    Calls Tryd.prog 8 #[.int .u32 a0, .int .u32 a1, .int .u32 a2, .int .i64 a3] w fun e w' => e = .returned (.bool true) ∧ Below w.heap.size w w' := by
  have b0 := bounds_u32 w0
  have b1 := bounds_u32 w1
  have b2 := bounds_u32 w2
  obtain ⟨R, hs, hi⟩ := both a0 a1 a2 a3 (by omega) (by omega) (by omega) (by omega) (by omega) (by omega)
  go_enter Tryd.func8, Tryd.ntmps8
  go_wp2_with (first | (go_at_call 29; refine (hs _).mono ?_; rintro e w1 ⟨rfl, hb1⟩) | (go_at_call 30; refine (hi _ (G.next hb1)).mono ?_; rintro e w2 ⟨rfl, hb2⟩))
  go_ret
  exact ⟨rfl, hb1.trans (hb2.mono hb1.size)⟩
theorem laid_met (os : Os) : laidMet Tryd.prog Rows.fnExactFuseWordsRow.laid ((laidWorld os).forCall (fun _ _ => 0) ⟨#[], #[.int .u32 0, .int .u32 0, .int .u32 0, .int .i64 0], []⟩).memory :=
  laidMet_of_run' 8 (by kernel_rfl) (by kernel_rfl)
set_option maxRecDepth 100000 in
theorem lifted (os : Os) (started : os.Started) (H : Type) (enc : TypeId × Value → H) :
    ReturnsInHanded {} Tryd.checked os 8 .any (fun w args => (Rows.fnExactFuseWordsSpec.pre enc Tryd.prog Tryd.f8 [] false w args ∧ laidMetH Tryd.prog Rows.fnExactFuseWordsRow.laid w) ∧ sizedMet enc Tryd.prog Tryd.f8 (OpenSpec.ofChange Rows.fnExactFuseWordsSpec) false w args)
      (Rows.fnExactFuseWordsSpec.post enc Tryd.prog Tryd.f8 false true false false) := by
  refine returnsInHanded_of_change_and (C := Tryd.checked) (X := fun w _ => laidMetH Tryd.prog Rows.fnExactFuseWordsRow.laid w) (fun _ _ _ hh h => h.of_heap hh) own started (by kernel_rfl) Tryd.func8
    (ChangeSpec.witness_at (enc := enc) (C := Tryd.checked) (os := os) (X := fun w _ => laidMetH Tryd.prog Rows.fnExactFuseWordsRow.laid w) false (laidWorld os) #[.int .u32 0, .int .u32 0, .int .u32 0, .int .i64 0] 8 rfl (by kernel_rfl) (by kernel_rfl) (by kernel_rfl) (by kernel_rfl) (by kernel_rfl) (laid_met os)) ?_
  intro W base args ds gs before hval0 hW _ _ hL _
  have hval : ∀ (j : Nat) t v, Tryd.f8.params[j]? = some t → args[j]? = some v → Value.okWide Tryd.prog W .any base t v := hval0
  have hW' := hW
  obtain ⟨p, q, hA0, hV0, rfl, hfz, hnd⟩ := hW
  have hA : DataW.TrodAll enc Tryd.prog W 0 (fun _ => true) true Tryd.f8.params.toList args.toList ds p := hA0
  have hV : DataW.TrodVars enc Tryd.prog W (fun _ => true) ["loop.example/g00053/impl.floatForms"] gs q := hV0
  rw [Tryd.params8] at hA hval
  obtain ⟨v0, vs0, d0, ds0, p0, q0, hargs, rfl, rfl, h0, r0⟩ := trodAll_cons hA
  obtain ⟨v1, vs1, d1, ds1, p1, q1, rfl, rfl, rfl, h1, r1⟩ := trodAll_cons r0
  obtain ⟨v2, vs2, d2, ds2, p2, q2, rfl, rfl, rfl, h2, r2⟩ := trodAll_cons r1
  obtain ⟨v3, vs3, d3, ds3, p3, q3, rfl, rfl, rfl, h3, r3⟩ := trodAll_cons r2
  obtain ⟨rfl, rfl, rfl⟩ := trodAll_nil r3
  obtain rfl : args = #[v0, v1, v2, v3] := by cases args; simp_all
  obtain ⟨a0, rfl, rfl, rfl, w0⟩ := open_int Tryd.underlying23 (hval 0 23 v0 rfl rfl) h0
  obtain ⟨a1, rfl, rfl, rfl, w1⟩ := open_int Tryd.underlying23 (hval 1 23 v1 rfl rfl) h1
  obtain ⟨a2, rfl, rfl, rfl, w2⟩ := open_int Tryd.underlying23 (hval 2 23 v2 rfl rfl) h2
  obtain ⟨a3, rfl, rfl, rfl, w3⟩ := open_int Tryd.underlying3 (hval 3 3 v3 rfl rfl) h3
  obtain ⟨g, t, cs, fuel, d, p', rfl, hg, ht, hvar, hd, rfl⟩ := trodVars_one hV
  obtain rfl := Option.some.inj (gTab.symm.trans hg)
  obtain rfl := Option.some.inj (gTabType.symm.trans ht)
  obtain rfl : cs = cells8 := Option.some.inj (hvar.symm.trans (cells_of_laid hL))
  obtain ⟨rfl, rfl⟩ := DataW.Trod.unique (v := .agg cells8) ⟨fuel, hd⟩ ⟨4, reads_table enc W _⟩
  clear hA0 hV0 hval0
  refine (walk a0 a1 a2 a3 w0 w1 w2 w3 W (forms_of_laid hL)).mono fun e W' ⟨he, bel⟩ => ?_
  subst he
  have hv' : W'.var? Tryd.prog "loop.example/g00053/impl.floatForms" = some cells8 := var?_below bel gTab (forms_of_laid hL).pos hvar
  exact ⟨_, rfl, _, _, _, [], [], MemPlace.row ⟨0, 0, none⟩ cells8.size ++ [] ++ [], hW', trodAll_cons_mk (shut_bool Tryd.underlying4 _) trodAll_mk0, (trodAll_cons_mk (shut_int Tryd.underlying23 w0) (trodAll_cons_mk (shut_int Tryd.underlying23 w1) (trodAll_cons_mk (shut_int Tryd.underlying23 w2) (trodAll_cons_mk (shut_int Tryd.underlying3 w3) trodAll_mk0)))), ⟨0, 50, cells8, 4, [], [], hg, ht, hv', reads_table enc W' _, rfl, rfl⟩, bel.frame _, fun h => by cases h⟩

theorem said : Rows.FnExactFuseWordsSaid :=
  OpenClaim.holds_of_wide 8 Tryd.f8 rfl rfl rfl rfl rfl rfl rfl ⟨rfl, rfl, rfl, rfl, rfl⟩ rfl rfl rfl rfl rfl (by kernel_rfl) Tryd.func8 (by kernel_rfl)
    (of_decide_eq_true (by kernel_rfl)) (by unfold Func.isWrapper; first | (rw [if_pos (by decide +kernel)]; kernel_rfl) | (rw [if_neg (by decide +kernel)]; exact ⟨rfl, rfl⟩))
    (fun os started H enc _ => lifted os started H enc)

theorem plain (f : FuncId) (fn : Func) (hf : Tryd.pinned.checked.prog.funcNamed "loop.example/g00053/laws.FnExactFuseWords" = some f) (hfn : Tryd.pinned.checked.prog.funcs[f]? = some fn) :
    false = Tryd.pinned.checked.prog.looks [] ∧ ∀ (j : Nat) t, fn.params[j]? = some t → Tryd.pinned.checked.prog.wantsStandIn t = false := by
  obtain rfl : f = 8 := Option.some.inj ((show Tryd.prog.funcNamed "loop.example/g00053/laws.FnExactFuseWords" = some 8 by kernel_rfl).symm.trans hf) |>.symm
  obtain rfl : fn = Tryd.f8 := (Option.some.inj (Tryd.func8.symm.trans hfn)).symm
  refine ⟨by kernel_rfl, fun j t ht => ?_⟩
  rw [Tryd.params8] at ht
  rcases (by simpa using Array.mem_of_getElem? ht : t = 23 ∨ t = 3) with rfl | rfl
  · exact (show Tryd.prog.wantsStandIn 23 = false by kernel_rfl)
  · exact (show Tryd.prog.wantsStandIn 3 = false by kernel_rfl)

theorem card : Rows.FnExactFuseWordsCardSaid :=
  Claim7.holds_tied_plain_at .later [] _ _ _ _ said (fun _ h => by cases h) (by kernel_rfl) (fun _ h => by cases h) fnExactFuseWords_row_tie rfl ⟨rfl, rfl⟩ (by kernel_rfl) rfl plain (by kernel_rfl)

end Go.Proofs.YtamoakodlmjbiaaDoor.fnExactFuseWords
namespace Go.Proofs.YtamoakodlmjbiaaDoor
theorem fuse_words_holds : Rows.FnExactFuseWordsCardSaid := fnExactFuseWords.card
#print axioms fuse_words_holds
end Go.Proofs.YtamoakodlmjbiaaDoor
