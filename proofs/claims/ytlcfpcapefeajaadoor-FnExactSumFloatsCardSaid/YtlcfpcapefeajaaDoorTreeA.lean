/- The sums of words of both sides with bounds; the trees of sums of a row, alike on both sides; rows of values, copies, masks and picked lanes at this seat. -/
import Derived.Test.YtlcfpcapefeajaaDoorAddA
import Derived.WalkKit
import Derived.ProofKit
import Derived.OpenShut
import Derived.WalkLawsBesides
import Derived.Laws.BitsAll
import Derived.Deep.QuietTactic
import Derived.Deep.Grids
import Derived.Carry
import Derived.Laws.ShiftsVar
import Derived.Laws.StructEq
import Derived.Laws.Cover2
namespace Go.Proofs.YtlcfpcapefeajaaDoor.fnExactAddWords
open Go.ChangeShapes Go.WideShapes Go.ChangeAt Go.RowKit
open fnExactFuseWords (Tests tests nilB nil83B i_bad i_nan i_fin i_c i_infA i_infB i_infC)
set_option linter.unusedVariables false
theorem sg0 (S : Bool) : 0 ≤ sgn_w S 0 ∧ sgn_w S 0 < 4294967296 := by cases S <;> exact ⟨by decide, by decide⟩
set_option maxHeartbeats 1000000 in
theorem bothb (a b mode : Int) (hm : 0 ≤ mode ∧ mode ≤ 4) (a0 : 0 ≤ a) (a1 : a < 4294967296) (b0 : 0 ≤ b) (b1 : b < 4294967296) : ∃ R : Int, (0 ≤ R ∧ R < 4294967296) ∧
    (∀ w : World, Calls Tryd.prog 48 #[.int .u32 a, .int .u32 b, .int .i64 mode] w fun e w' => e = .returned (.int .u32 R) ∧ Below w.heap.size w w') ∧
    (∀ w : World, Forms w → Calls Tryd.prog 31 #[.int .u32 a, .int .u32 b, .int .i64 mode] w fun e w' => e = .returned (.int .u32 R) ∧ Below w.heap.size w w') := by
  obtain ⟨x, hx⟩ : ∃ x, kindI (a % 2147483648) = x := ⟨_, rfl⟩
  obtain ⟨y, hy⟩ : ∃ y, kindI (b % 2147483648) = y := ⟨_, rfl⟩
  obtain ⟨SA, hSA⟩ : ∃ s, decide (2147483648 ≤ a) = s := ⟨_, rfl⟩
  obtain ⟨SB, hSB⟩ : ∃ s, decide (2147483648 ≤ b) = s := ⟨_, rfl⟩
  have h1 : kindI (1065353216 % 2147483648) = 1 := by decide
  have hS1 : decide ((2147483648 : Int) ≤ 1065353216) = false := by decide
  have o0 : (0 : Int) ≤ 1065353216 := by decide
  have o1 : (1065353216 : Int) < 4294967296 := by decide
  have xb := kind_bd (a % 2147483648)
  have yb := kind_bd (b % 2147483648)
  rw [hx] at xb
  rw [hy] at yb
  have eS : (SA != false) = SA := by cases SA <;> rfl
  have TA := tests a x SA a0 a1 hx hSA
  have TB := tests b y SB b0 b1 hy hSB
  by_cases hn : x = 3 ∨ y = 3
  · exact ⟨_, ⟨by decide, by decide⟩, fun w => s_of a b mode _ hm w (s_nan a b mode x y SA SB xb yb TA TB w hn), fun w G => i_of a b mode _ w (i_nan a 1065353216 b mode x 1 y hm a0 a1 o0 o1 b0 b1 hx h1 hy w G (by omega))⟩
  by_cases x2 : x = 2
  · have ha := inf_word a a0 a1 SA hSA (by rw [hx, x2])
    by_cases y2 : y = 2
    · have hb := inf_word b b0 b1 SB hSB (by rw [hy, y2])
      by_cases hab : a = b
      · have hss : SB = (SA != false) := by rw [eS, ← hSA, ← hSB, hab]
        have hi := fun w G => i_infB a 1065353216 b mode x 1 y SA false SB hm a0 a1 o0 o1 b0 b1 hx h1 hy hSA hS1 hSB w G hss ⟨Or.inl ⟨x2, Or.inl rfl⟩, y2⟩
        rw [eS, ha] at hi
        subst hab
        rw [x2] at TA
        exact ⟨a, ⟨a0, a1⟩, fun w => s_of a a mode _ hm w (s_infaa a mode SA TA w), fun w G => i_of a a mode _ w (hi w G)⟩
      · have hss : SB ≠ (SA != false) := by
          rw [eS]; intro h; apply hab; rw [← ha, ← hb, h]
        exact ⟨_, ⟨by decide, by decide⟩, fun w => s_of a b mode _ hm w (s_nan2 a b mode x y SA SB xb yb TA TB w hab ⟨x2, y2⟩), fun w G => i_of a b mode _ w (i_infC a 1065353216 b mode x 1 y SA false SB hm a0 a1 o0 o1 b0 b1 hx h1 hy hSA hS1 hSB w G hss ⟨Or.inl ⟨x2, Or.inl rfl⟩, y2⟩)⟩
    · have hi := fun w G => i_infA a 1065353216 b mode x 1 y SA false SB hm a0 a1 o0 o1 b0 b1 hx h1 hy hSA hS1 hSB w G ⟨Or.inl ⟨x2, Or.inl rfl⟩, by omega⟩
      rw [eS, ha] at hi
      exact ⟨a, ⟨a0, a1⟩, fun w => s_of a b mode _ hm w (s_infa a b mode x y SA SB xb yb TA TB w ⟨x2, by omega⟩), fun w G => i_of a b mode _ w (hi w G)⟩
  have hxx : x = 0 ∨ x = 1 := by omega
  by_cases y2 : y = 2
  · exact ⟨b, ⟨b0, b1⟩, fun w => s_of a b mode _ hm w (s_infb a b mode x y SA SB xb yb TA TB w ⟨hxx, y2⟩), fun w G => i_of a b mode _ w (i_c a 1065353216 b mode x 1 y SA false SB hm a0 a1 o0 o1 b0 b1 hx h1 hy hSA hS1 hSB w G ⟨hxx, Or.inr rfl, y2⟩)⟩
  have hyy : y = 0 ∨ y = 1 := by omega
  have kd : ∀ (u k : Int), 0 ≤ u → u < 4294967296 → kindI (u % 2147483648) = k → (k = 0 ∨ k = 1) → u % 2147483648 < 2139095040 ∧ (k = 0 → exS (u % 2147483648) = 0 ∧ exP (u % 2147483648) = -149) ∧ (k = 1 → 0 < exS (u % 2147483648) ∧ 0 < u % 2147483648) := by
    intro u k u0 u1 h hk
    unfold kindI at h
    unfold exS exP
    refine ⟨?_, fun h0 => ?_, fun h0 => ?_⟩ <;> (repeat' split at h) <;> (repeat' split) <;> omega
  obtain ⟨la, la0, la1⟩ := kd a x a0 a1 hx hxx
  obtain ⟨lb, lb0, lb1⟩ := kd b y b0 b1 hy hyy
  clear kd
  have sbA := exS_bd (a % 2147483648) (by omega)
  have pbA := exP_bd (a % 2147483648) (by omega) (by omega)
  have sbB := exS_bd (b % 2147483648) (by omega)
  have pbB := exP_bd (b % 2147483648) (by omega) (by omega)
  have HE : ∀ v : World, Forms v → Calls Tryd.prog 78 #[.int .u32 b, .int .i64 0] v fun e w' => e = .returned (.agg #[.bool SB, .int .u64 (exS (b % 2147483648)), .int .i64 (exP (b % 2147483648)), .bool false]) ∧ Below v.heap.size v w' := fun v Gv => by
    have h := exactOf_w b b0 b1 v Gv
    rw [hSB] at h
    exact h
  have pA := fun v : World => sParts_any a a0 a1 v
  have pB := fun v : World => sParts_any b b0 b1 v
  rw [hSA] at pA
  rw [hSB] at pB
  obtain ⟨S, hS⟩ : ∃ S, exS (a % 2147483648) = S := ⟨_, rfl⟩
  obtain ⟨p, hp⟩ : ∃ E, exP (a % 2147483648) = E := ⟨_, rfl⟩
  obtain ⟨T, hT⟩ : ∃ S, exS (b % 2147483648) = S := ⟨_, rfl⟩
  obtain ⟨q, hq⟩ : ∃ E, exP (b % 2147483648) = E := ⟨_, rfl⟩
  rw [hS] at sbA la0 la1 pA
  rw [hp] at pbA la0 pA
  rw [hT] at sbB lb0 lb1 pB HE
  rw [hq] at pbB lb0 pB HE
  obtain ⟨s, rfl⟩ := Int.eq_ofNat_of_zero_le sbA.1
  obtain ⟨t, rfl⟩ := Int.eq_ofNat_of_zero_le sbB.1
  obtain ⟨g, hg⟩ : ∃ z, s * 8388608 = z := ⟨_, rfl⟩
  have g1 : g < 281474976710656 := by omega
  have hgI : (s : Int) * 8388608 = (g : Int) := by omega
  have HP : ∀ v : World, Forms v → Calls Tryd.prog 57 #[.int .u32 a, .int .u32 1065353216] v fun e w' => e = .returned (.agg #[.bool (SA != false), .int .u64 (g : Int), .int .i64 (p + -23), .bool false]) ∧ Below v.heap.size v w' := fun v Gv =>
    prod59 a 1065353216 a0 a1 o0 o1 v Gv (s : Int) 8388608 0 0 p (-23) (g : Int) (p + -23) SA false hSA hS1 hS (by decide) hp (by decide) sbA.1 sbA.2 (by decide) (by decide) pbA.1 pbA.2 (by decide) (by decide) hgI (by omega) (by omega) rfl
  have impl := fun (R : Int) (HR : ∀ v : World, Forms v → Calls Tryd.prog 77 #[.agg #[.bool SA, .int .u64 (g : Int), .int .i64 (p + -23), .bool false], .agg #[.bool SB, .int .u64 (t : Int), .int .i64 q, .bool false], .int .i64 mode] v fun e w' => e = .returned (.int .u32 R) ∧ Below v.heap.size v w') (w : World) (G : Forms w) =>
    i_of a b mode R w (i_fin a 1065353216 b mode x 1 y SA false SB hm a0 a1 o0 o1 b0 b1 hx h1 hy hSA hS1 hSB w G R (g : Int) (p + -23) (t : Int) q HP HE (by rw [eS]; exact HR) ⟨hxx, Or.inr rfl, hyy⟩)
  by_cases nn : x = 0 ∧ y = 0
  · obtain ⟨s0, _⟩ := la0 nn.1
    obtain ⟨t0, _⟩ := lb0 nn.2
    have s0' : s = 0 := by omega
    have t0' : t = 0 := by omega
    have g0' : g = 0 := by omega
    refine ⟨_, sg0 _, fun w => s_of a b mode _ hm w (s_nn a b mode x y SA SB xb yb TA TB w nn), impl _ (fun v Gv => ?_)⟩
    subst g0' t0'
    by_cases hn : SA = SB
    · have h := rs_same SB SB false 0 (p + -23) 0 q q mode v (sum_nilx SB SB (p + -23) 0 q) Gv
      have e : nilB SA SB mode = SB := by unfold nilB; rw [hn]; simp
      rw [e, hn]
      exact h
    · have hn2 : (SA == SB) = false := by cases h : (SA == SB); rfl; exact absurd (eq_of_beq h) hn
      have h := rs_diff SA SB SB false 0 (p + -23) 0 q q mode v hn2 (sum_nilx SA SB (p + -23) 0 q) Gv
      have e : nilB SA SB mode = decide (mode = 4) := by unfold nilB; rw [hn2]; rfl
      rw [e]
      exact h
  have cnd : (x = 0 ∨ x = 1) ∧ (y = 0 ∨ y = 1) ∧ ¬ (x = 0 ∧ y = 0) := ⟨hxx, hyy, nn⟩
  obtain ⟨X, hX⟩ : ∃ X, sgI SA (s : Int) = X := ⟨_, rfl⟩
  obtain ⟨Y, hY⟩ : ∃ Y, sgI SB (t : Int) = Y := ⟨_, rfl⟩
  have X0 : -16777216 < X := by rw [← hX]; cases SA <;> simp [sgI] <;> omega
  have X1 : X < 16777216 := by rw [← hX]; cases SA <;> simp [sgI] <;> omega
  have Y0 : -16777216 < Y := by rw [← hY]; cases SB <;> simp [sgI] <;> omega
  have Y1 : Y < 16777216 := by rw [← hY]; cases SB <;> simp [sgI] <;> omega
  rw [hX] at pA
  rw [hY] at pB
  obtain ⟨F, M, hF, hM, HPl⟩ : ∃ F M : Int, (F = p ∧ p ≤ q ∨ F = q ∧ q ≤ p) ∧ M = sgI SA (s : Int) * 2 ^ (p - F).toNat + sgI SB (t : Int) * 2 ^ (q - F).toNat ∧
      (∀ v : World, Calls Tryd.prog 72 #[.agg #[.int .i64 X, .bool false, .slice none 0 0, .int .i64 1, .bool false, .slice none 0 0, .int .i64 p], .agg #[.int .i64 Y, .bool false, .slice none 0 0, .int .i64 1, .bool false, .slice none 0 0, .int .i64 q]] v fun e w' => ∃ V g pp l c, e = .returned (.agg #[.int .i64 V, .bool g, .slice pp l c, .int .i64 1, .bool false, .slice none 0 0, .int .i64 F]) ∧ Num w' 200 (.agg #[.int .i64 V, .bool g, .slice pp l c]) M ∧ Below v.heap.size v w') := by
    by_cases hle : p ≤ q
    · refine ⟨p, X + Y * 2 ^ (q - p).toNat, Or.inl ⟨rfl, hle⟩, ?_, fun v => plus84_le X Y p q (q - p).toNat (by omega) (by omega) (by omega) (by omega) (by omega) (by omega) (by omega) (by omega) (by omega) (by omega) v⟩
      rw [hX, hY, show (p - p).toNat = 0 by omega]; simp
    · refine ⟨q, Y + X * 2 ^ (p - q).toNat, Or.inr ⟨rfl, by omega⟩, ?_, fun v => plus84_gt X Y p q (p - q).toNat (by omega) (by omega) (by omega) (by omega) (by omega) (by omega) (by omega) (by omega) (by omega) (by omega) (by omega) v⟩
      rw [hX, hY, show (q - q).toNat = 0 by omega]; simp [Int.add_comm]
  have big := T_big SA SB s t p q F M (by omega) (by omega) (by omega) (by omega) (by omega) (by omega) hF hM
  have fin := fun (R : Int) (r0 : 0 ≤ R) (r1 : R < 4294967296) (Mn : M ≠ 0) (hs : ∀ (v : World) (K L : Nat) (VP VQ : Int) (gP gQ : Bool) (pP pQ : Option Addr) (lP cP lQ cQ : Nat), Num v K (.agg #[.int .i64 VP, .bool gP, .slice pP lP cP]) M → Num v L (.agg #[.int .i64 VQ, .bool gQ, .slice pQ lQ cQ]) 1 → 2 ≤ K → K ≤ 9000 →
        Calls Tryd.prog 75 #[.agg #[.int .i64 VP, .bool gP, .slice pP lP cP, .int .i64 VQ, .bool gQ, .slice pQ lQ cQ, .int .i64 F], .agg #[.int .i64 24, .int .i64 (-149), .int .i64 104], .int .i64 mode] v fun e w' => e = .returned (.int .i64 R) ∧ Below v.heap.size v w') (w : World) =>
    s_of a b mode R hm w (s_sum a b mode x y SA SB xb yb TA TB w X Y p q pA pB F X0 X1 Y0 Y1 M HPl Mn R r0 r1 (fun v K VP gP pP lP cP NP k2 k9 => hs v K 3 VP 1 gP false pP none lP cP 0 0 NP (num_small v 3 1 (by decide) (by decide)) k2 k9) cnd)
  by_cases x0 : x = 0
  · obtain ⟨s0, p149⟩ := la0 x0
    have y1 : y = 1 := by omega
    obtain ⟨t0, _⟩ := lb1 y1
    have s0' : s = 0 := by omega
    have g0' : g = 0 := by omega
    have Fp : F = p := by omega
    have hM2 : M = Y * 2 ^ (q - F).toNat := by rw [hM, s0', hY]; cases SA <;> simp [sgI]
    have hMa : M.natAbs = t * 2 ^ (q - F).toNat := by
      rw [hM2, Int.natAbs_mul, Int.natAbs_pow, show Y.natAbs = t by rw [← hY]; cases SB <;> simp [sgI]]; rfl
    have pd : (0 : Int) < 2 ^ (q - F).toNat := by have := p2 (q - F).toNat; exact_mod_cast this
    have Mn : M ≠ 0 := by
      intro h; rw [h] at hMa
      have : 0 < t * 2 ^ (q - F).toNat := Nat.mul_pos (by omega) (p2 _)
      simp at hMa; omega
    have hs : decide (M < 0) = SB := by
      rw [hM2, ← hY]
      cases SB
      · simp only [sgI]
        refine decide_eq_false ?_
        have := Int.mul_nonneg (show (0 : Int) ≤ (t : Int) by omega) (Int.le_of_lt pd)
        simp; omega
      · simp only [sgI]
        refine decide_eq_true ?_
        exact Int.mul_neg_of_neg_of_pos (by simp; omega) pd
    obtain ⟨R, r0, r1, hi, hsp⟩ := one_both SB t q mode hm.1 hm.2 (by omega) (by omega) (by omega) (by omega) M F Mn (by omega) (by omega) hs big (by
      rw [hMa, Nat.mul_assoc, Nat.mul_assoc, ← Nat.pow_add, ← Nat.pow_add, Nat.mul_assoc, ← Nat.pow_add]
      congr 2
      omega)
    refine ⟨R, ⟨r0, r1⟩, fin R r0 r1 Mn hsp, impl R (fun v Gv => ?_)⟩
    subst g0'
    exact rs_num SA SB SB false 0 (p + -23) (t : Int) q (t : Int) q mode R v (by omega) (sum_nilx SA SB (p + -23) (t : Int) q) hi Gv
  have x1 : x = 1 := by omega
  obtain ⟨s0, _⟩ := la1 x1
  by_cases y0 : y = 0
  · obtain ⟨t0, q149⟩ := lb0 y0
    have t0' : t = 0 := by omega
    have Fq : F = q := by omega
    have hM2 : M = X * 2 ^ (p - F).toNat := by rw [hM, t0', hX]; cases SB <;> simp [sgI]
    have hMa : M.natAbs = s * 2 ^ (p - F).toNat := by
      rw [hM2, Int.natAbs_mul, Int.natAbs_pow, show X.natAbs = s by rw [← hX]; cases SA <;> simp [sgI]]; rfl
    have pd : (0 : Int) < 2 ^ (p - F).toNat := by have := p2 (p - F).toNat; exact_mod_cast this
    have Mn : M ≠ 0 := by
      intro h; rw [h] at hMa
      have : 0 < s * 2 ^ (p - F).toNat := Nat.mul_pos (by omega) (p2 _)
      simp at hMa; omega
    have hs : decide (M < 0) = SA := by
      rw [hM2, ← hX]
      cases SA
      · simp only [sgI]
        refine decide_eq_false ?_
        have := Int.mul_nonneg (show (0 : Int) ≤ (s : Int) by omega) (Int.le_of_lt pd)
        simp; omega
      · simp only [sgI]
        refine decide_eq_true ?_
        exact Int.mul_neg_of_neg_of_pos (by simp; omega) pd
    obtain ⟨R, r0, r1, hi, hsp⟩ := one_both SA g (p + -23) mode hm.1 hm.2 (by omega) (by omega) (by omega) (by omega) M F Mn (by omega) (by omega) hs big (by
      rw [hMa, ← hg, show (8388608 : Nat) = 2 ^ 23 by decide, Nat.mul_assoc, Nat.mul_assoc, ← Nat.pow_add, ← Nat.pow_add, Nat.mul_assoc, Nat.mul_assoc, ← Nat.pow_add, ← Nat.pow_add]
      congr 2
      omega)
    refine ⟨R, ⟨r0, r1⟩, fin R r0 r1 Mn hsp, impl R (fun v Gv => ?_)⟩
    subst t0'
    exact rs_num SA SB SA false (g : Int) (p + -23) 0 q (g : Int) (p + -23) mode R v (by omega) (sum_nily SA SB (g : Int) (p + -23) q (by omega)) hi Gv
  · have y1 : y = 1 := by omega
    obtain ⟨t0, _⟩ := lb1 y1
    rcases add_both SA SB s t p q mode hm.1 hm.2 (by omega) (by omega) (by omega) (by omega) (by omega) (by omega) (by omega) (by omega) F M hF hM g hg with ⟨M0, hi⟩ | ⟨M0, R, r0, r1, hi, hs⟩
    · exact ⟨_, sg0 _, fun w => s_of a b mode _ hm w (s_sum0 a b mode x y SA SB xb yb TA TB w X Y p q pA pB F X0 X1 Y0 Y1 M HPl M0 cnd), impl _ hi⟩
    · exact ⟨R, ⟨r0, r1⟩, fin R r0 r1 M0 hs, impl R hi⟩
end Go.Proofs.YtlcfpcapefeajaaDoor.fnExactAddWords
namespace Go.Proofs.YtlcfpcapefeajaaDoor
open Go.ChangeShapes Go.WideShapes Go.ChangeAt Go.RowKit
set_option linter.unusedVariables false
set_option maxRecDepth 100000 in
set_option maxHeartbeats 1000000 in
theorem step43 (n k b off cap : Nat) (R1 R2 R : Int) (w : World) (hn : 2 ≤ n) (n16 : n ≤ 16) (hk : n / 2 = k) (hcap : n ≤ cap) (hc9 : cap ≤ 9223372036854775807)
    (H1 : Hid (∀ v : World, Below w.heap.size w v → Calls Tryd.prog 43 #[.slice (some ⟨b, off, none⟩) k cap] v fun e w' => e = .returned (.int .u32 R1) ∧ Below v.heap.size v w'))
    (H2 : Hid (∀ v : World, Below w.heap.size w v → Calls Tryd.prog 43 #[.slice (some ⟨b, off + k, none⟩) (n - k) (cap - k)] v fun e w' => e = .returned (.int .u32 R2) ∧ Below v.heap.size v w'))
    (H3 : Hid (∀ v : World, Below w.heap.size w v → Calls Tryd.prog 30 #[.int .u32 R1, .int .u32 R2] v fun e w' => e = .returned (.int .u32 R) ∧ Below v.heap.size v w')) :
    Calls Tryd.prog 43 #[.slice (some ⟨b, off, none⟩) n cap] w fun e w' => e = .returned (.int .u32 R) ∧ Below w.heap.size w w' := by
  have k1 : 1 ≤ k := by omega
  have k2 : k ≤ n := by omega
  have e1 : Int.tdiv (n : Int) 2 = (k : Int) := by rw [Int.tdiv_eq_ediv_of_nonneg (by omega)]; omega
  have e2 : (n : Int) / 2 = (k : Int) := by omega
  have n0 : ¬ (n : Int) = 0 := by omega
  have n1 : ¬ (n : Int) = 1 := by omega
  have k0' : (0 : Int) ≤ (k : Int) := by omega
  have k1' : (k : Int) ≤ (n : Int) := by omega
  have k2' : (k : Int) ≤ (cap : Int) := by omega
  have b0 : Below w.heap.size w w := Below.refl _ _
  skip
  clear hk
  go_enter Tryd.func43, Tryd.ntmps43
  go_wp2
  go_region_held3 (fun v => Below w.heap.size w v) (first | with_reducible exact b0 | with_reducible exact b0.drew | with_reducible exact b1 | with_reducible exact b2 | with_reducible exact b3 | (go_keep; done)) (first | (go_at_call 43; (with_reducible show Calls Tryd.prog 43 #[Value.slice (some ⟨b, off, none⟩) k cap] _ _); refine ((Hid.out H1) _ (by first | exact b0 | exact b1 | exact b2 | exact b0.drew)).mono ?_; rintro e w1 ⟨rfl, hc1⟩; (have b1 : Below w.heap.size w w1 := Below.trans (by first | exact b0 | exact b0.drew) (hc1.mono (Nat.le_refl _)))) | (go_at_call 43; (with_reducible show Calls Tryd.prog 43 #[Value.slice (some ⟨b, off + k, none⟩) (n - k) (cap - k)] _ _); refine ((Hid.out H2) _ (by first | exact b0 | exact b1 | exact b2 | exact b0.drew)).mono ?_; rintro e w2 ⟨rfl, hc2⟩; (have b2 : Below w.heap.size w w2 := b1.trans (hc2.mono b1.size))) | (go_at_call 30; refine ((Hid.out H3) _ (by first | exact b0 | exact b1 | exact b2 | exact b0.drew)).mono ?_; rintro e w3 ⟨rfl, hc3⟩; (have b3 : Below w.heap.size w w3 := b2.trans (hc3.mono b2.size))))
  all_goals go_wp2
  all_goals go_ret
  all_goals exact ⟨rfl, b3⟩
set_option maxRecDepth 100000 in
theorem one43 (b off cap : Nat) (x : Int) (w : World) (hc : w.cell? ⟨b, off, none⟩ = some (.int .u32 x)) : Calls Tryd.prog 43 #[.slice (some ⟨b, off, none⟩) 1 cap] w fun e w' => e = .returned (.int .u32 x) ∧ Below w.heap.size w w' := by
  go_enter Tryd.func43, Tryd.ntmps43
  go_wp2
  go_ret
  exact ⟨rfl, Below.refl _ _⟩
set_option maxRecDepth 100000 in
set_option maxHeartbeats 1000000 in
theorem step46 (n k b off cap : Nat) (R1 R2 R : Int) (w : World) (G : Forms w) (hn : 2 ≤ n) (n16 : n ≤ 16) (hk : n / 2 = k) (hcap : n ≤ cap) (hc9 : cap ≤ 9223372036854775807)
    (H1 : Hid (∀ v : World, Below w.heap.size w v → Forms v → Calls Tryd.prog 46 #[.slice (some ⟨b, off, none⟩) k cap] v fun e w' => e = .returned (.int .u32 R1) ∧ Below v.heap.size v w'))
    (H2 : Hid (∀ v : World, Below w.heap.size w v → Forms v → Calls Tryd.prog 46 #[.slice (some ⟨b, off + k, none⟩) (n - k) (cap - k)] v fun e w' => e = .returned (.int .u32 R2) ∧ Below v.heap.size v w'))
    (H3 : Hid (∀ v : World, Below w.heap.size w v → Forms v → Calls Tryd.prog 31 #[.int .u32 R1, .int .u32 R2, .int .i64 0] v fun e w' => e = .returned (.int .u32 R) ∧ Below v.heap.size v w')) :
    Calls Tryd.prog 46 #[.slice (some ⟨b, off, none⟩) n cap] w fun e w' => e = .returned (.int .u32 R) ∧ Below w.heap.size w w' := by
  have k1 : 1 ≤ k := by omega
  have k2 : k ≤ n := by omega
  have e1 : Int.tdiv (n : Int) 2 = (k : Int) := by rw [Int.tdiv_eq_ediv_of_nonneg (by omega)]; omega
  have e2 : (n : Int) / 2 = (k : Int) := by omega
  have n0 : ¬ (n : Int) = 0 := by omega
  have n1 : ¬ (n : Int) = 1 := by omega
  have k0' : (0 : Int) ≤ (k : Int) := by omega
  have k1' : (k : Int) ≤ (n : Int) := by omega
  have k2' : (k : Int) ≤ (cap : Int) := by omega
  have b0 : Below w.heap.size w w := Below.refl _ _
  have HG : Hid (Forms w) := G
  clear G
  clear hk
  go_enter Tryd.func46, Tryd.ntmps46
  go_wp2
  go_region_held3 (fun v => Below w.heap.size w v) (first | with_reducible exact b0 | with_reducible exact b0.drew | with_reducible exact b1 | with_reducible exact b2 | with_reducible exact b3 | (go_keep; done)) (first | (go_at_call 46; (with_reducible show Calls Tryd.prog 46 #[Value.slice (some ⟨b, off, none⟩) k cap] _ _); refine ((Hid.out H1) _ (by first | exact b0 | exact b1 | exact b2 | exact b0.drew) (HG.out.below (by first | exact b0 | exact b1 | exact b2 | exact b0.drew))).mono ?_; rintro e w1 ⟨rfl, hc1⟩; (have b1 : Below w.heap.size w w1 := Below.trans (by first | exact b0 | exact b0.drew) (hc1.mono (Nat.le_refl _)))) | (go_at_call 46; (with_reducible show Calls Tryd.prog 46 #[Value.slice (some ⟨b, off + k, none⟩) (n - k) (cap - k)] _ _); refine ((Hid.out H2) _ (by first | exact b0 | exact b1 | exact b2 | exact b0.drew) (HG.out.below (by first | exact b0 | exact b1 | exact b2 | exact b0.drew))).mono ?_; rintro e w2 ⟨rfl, hc2⟩; (have b2 : Below w.heap.size w w2 := b1.trans (hc2.mono b1.size))) | (go_at_call 31; refine ((Hid.out H3) _ (by first | exact b0 | exact b1 | exact b2 | exact b0.drew) (HG.out.below (by first | exact b0 | exact b1 | exact b2 | exact b0.drew))).mono ?_; rintro e w3 ⟨rfl, hc3⟩; (have b3 : Below w.heap.size w w3 := b2.trans (hc3.mono b2.size))))
  all_goals go_wp2
  all_goals go_ret
  all_goals exact ⟨rfl, b3⟩
set_option maxRecDepth 100000 in
theorem one46 (b off cap : Nat) (x : Int) (w : World) (hc : w.cell? ⟨b, off, none⟩ = some (.int .u32 x)) : Calls Tryd.prog 46 #[.slice (some ⟨b, off, none⟩) 1 cap] w fun e w' => e = .returned (.int .u32 x) ∧ Below w.heap.size w w' := by
  go_enter Tryd.func46, Tryd.ntmps46
  go_wp2
  go_ret
  exact ⟨rfl, Below.refl _ _⟩
theorem tree : ∀ n : Nat, 1 ≤ n → n ≤ 16 → ∀ f : Nat → Int, (∀ i, 0 ≤ f i ∧ f i < 4294967296) → ∃ R : Int, (0 ≤ R ∧ R < 4294967296) ∧
    (∀ (w : World) (b off cap : Nat), b < w.heap.size → n ≤ cap → cap ≤ 9223372036854775807 → (∀ i, i < n → w.cell? ⟨b, off + i, none⟩ = some (.int .u32 (f i))) → Calls Tryd.prog 43 #[.slice (some ⟨b, off, none⟩) n cap] w fun e w' => e = .returned (.int .u32 R) ∧ Below w.heap.size w w') ∧
    (∀ (w : World) (b off cap : Nat), Forms w → b < w.heap.size → n ≤ cap → cap ≤ 9223372036854775807 → (∀ i, i < n → w.cell? ⟨b, off + i, none⟩ = some (.int .u32 (f i))) → Calls Tryd.prog 46 #[.slice (some ⟨b, off, none⟩) n cap] w fun e w' => e = .returned (.int .u32 R) ∧ Below w.heap.size w w') := by
  intro n
  induction n using Nat.strongRecOn with
  | _ n ih =>
    intro n1 n16 f hf
    by_cases h1 : n = 1
    · subst h1
      exact ⟨f 0, hf 0, fun w b off cap _ _ _ hc => one43 b off cap (f 0) w (hc 0 (by omega)), fun w b off cap _ _ _ _ hc => one46 b off cap (f 0) w (hc 0 (by omega))⟩
    · obtain ⟨k, hk⟩ : ∃ k, n / 2 = k := ⟨_, rfl⟩
      obtain ⟨R1, rb1, s1, i1⟩ := ih k (by omega) (by omega) (by omega) f hf
      obtain ⟨R2, rb2, s2, i2⟩ := ih (n - k) (by omega) (by omega) (by omega) (fun i => f (k + i)) (fun i => hf _)
      obtain ⟨R, rb, s3, i3⟩ := fnExactAddWords.bothb R1 R2 0 ⟨by decide, by decide⟩ rb1.1 rb1.2 rb2.1 rb2.2
      refine ⟨R, rb, fun w b off cap lb hcap h9 hc => ?_, fun w b off cap G lb hcap h9 hc => ?_⟩
      · refine step43 n k b off cap R1 R2 R w (by omega) n16 hk hcap h9 (fun v hv => s1 v b off cap (Nat.lt_of_lt_of_le lb hv.size) (by omega) h9 (fun i hi => (hv.cell (p := ⟨b, off + i, none⟩) lb).trans (hc i (by omega)))) (fun v hv => s2 v b (off + k) (cap - k) (Nat.lt_of_lt_of_le lb hv.size) (by omega) (by omega) (fun i hi => ?_)) (fun v hv => add30 _ _ _ s3 v)
        rw [Nat.add_assoc]
        exact (hv.cell (p := ⟨b, off + (k + i), none⟩) lb).trans (hc (k + i) (by omega))
      · refine step46 n k b off cap R1 R2 R w G (by omega) n16 hk hcap h9 (fun v hv Gv => i1 v b off cap Gv (Nat.lt_of_lt_of_le lb hv.size) (by omega) h9 (fun i hi => (hv.cell (p := ⟨b, off + i, none⟩) lb).trans (hc i (by omega)))) (fun v hv Gv => i2 v b (off + k) (cap - k) Gv (Nat.lt_of_lt_of_le lb hv.size) (by omega) (by omega) (fun i hi => ?_)) (fun v hv Gv => i3 v Gv)
        rw [Nat.add_assoc]
        exact (hv.cell (p := ⟨b, off + (k + i), none⟩) lb).trans (hc (k + i) (by omega))
end Go.Proofs.YtlcfpcapefeajaaDoor
namespace Go.Proofs.YtlcfpcapefeajaaDoor.Pl
open Go.ChangeShapes Go.WideShapes Go.ChangeAt Go.RowKit

/-- n cells of block o, from its head on: one value each; each may be written. -/
structure Own (w : World) (o n : Nat) (f : Nat → Value) : Prop where
  cell : ∀ i, i < n → w.cell? ⟨o, i, none⟩ = some (f i)
  free : ∀ i, w.frozen? ⟨o, i, none⟩ = false
  hi : o < w.heap.size
theorem Own.set {w : World} {o n : Nat} {f g : Nat → Value} (h : Own w o n f) (j : Nat) (v : Value) (hj : j < n) (hg : ∀ i, i < n → g i = if i = j then v else f i) : Own (w.setCell ⟨o, j, none⟩ v) o n g := by
  refine ⟨fun i hi => ?_, fun i => ?_, by simpa using h.hi⟩
  · rw [hg i hi]
    by_cases e : i = j
    · subst e
      rw [if_pos rfl]
      exact World.cell?_setCell_same' w _ _ (by rw [h.cell i hj]; rfl)
    · rw [if_neg e]
      have hne : (⟨o, j, none⟩ : Addr) ≠ ⟨o, i, none⟩ := by
        intro k; injection k with _ k2; exact e k2.symm
      rw [World.cell?_setCell_other (h := hne)]
      exact h.cell i hi
  · simp [h.free i]
theorem Own.mono {w : World} {o n m : Nat} {f g : Nat → Value} (h : Own w o n f) (hm : m ≤ n) (hg : ∀ i, i < m → g i = f i) : Own w o m g :=
  ⟨fun i hi => by rw [hg i hi]; exact h.cell i (by omega), h.free, h.hi⟩
/-- All blocks but one are as they were. -/
structure Only (o : Nat) (w w' : World) : Prop where
  os : w'.os = w.os
  tape : w'.tape = w.tape
  output : w'.output = w.output
  size : w.heap.size ≤ w'.heap.size
  block : ∀ k, k < w.heap.size → k ≠ o → w'.heap[k]? = w.heap[k]?
theorem Only.refl (o : Nat) (w : World) : Only o w w := ⟨rfl, rfl, rfl, Nat.le_refl _, fun _ _ _ => rfl⟩
theorem Only.trans {o : Nat} {a b c : World} (h : Only o a b) (k : Only o b c) : Only o a c :=
  ⟨k.os.trans h.os, k.tape.trans h.tape, k.output.trans h.output, Nat.le_trans h.size k.size, fun i hi ho => (k.block i (by have := h.size; omega) ho).trans (h.block i hi ho)⟩
theorem Only.setCell {o : Nat} {a w : World} (h : Only o a w) (j : Nat) (v : Value) : Only o a (w.setCell ⟨o, j, none⟩ v) :=
  h.trans ⟨rfl, rfl, rfl, by simp [World.setCell], fun k _ hk => Below.heap_setCell _ _ _ _ hk⟩
theorem Only.drewN {o : Nat} {a w : World} (h : Only o a w) (q : Nat) : Only o a (w.drewN q) := ⟨h.os, h.tape, h.output, h.size, h.block⟩
theorem Only.below {o B : Nat} {a w : World} (h : Only o a w) (hB : B ≤ o) (hs : B ≤ a.heap.size) : Below B a w := ⟨h.os, h.tape, h.output, h.size, fun k hk => h.block k (by omega) (by omega)⟩
theorem Only.ofBelow {o : Nat} {a w : World} (h : Below a.heap.size a w) : Only o a w := ⟨h.os, h.tape, h.output, h.size, fun k hk _ => h.block k hk⟩
theorem below_drewN {B : Nat} {a w : World} (h : Below B a w) (q : Nat) : Below B a (w.drewN q) := ⟨h.os, h.tape, h.output, h.size, h.block⟩
theorem drew2 (w : World) (a b : Nat) : (w.drewN a).drewN b = w.drewN (a + b) := by simp [World.drewN, Nat.add_assoc]
theorem Own.drewN {w : World} {o n : Nat} {f : Nat → Value} (h : Own w o n f) (q : Nat) : Own (w.drewN q) o n f := ⟨fun i hi => (h.cell i hi : w.cell? _ = _), fun i => h.free i, h.hi⟩
theorem Own.next {w w' : World} {o n : Nat} {f : Nat → Value} (h : Own w o n f) (hb : Below w.heap.size w w') : Own w' o n f := by
  have z := hb.size
  have zh := h.hi
  exact ⟨fun i hi => (hb.cell (p := ⟨o, i, none⟩) h.hi).trans (h.cell i hi), fun i => (hb.frozen (p := ⟨o, i, none⟩) h.hi).trans (h.free i), by omega⟩
theorem Own.but {w w' : World} {o p n : Nat} {f : Nat → Value} (h : Own w o n f) (hb : Only p w w') (hne : o ≠ p) : Own w' o n f := by
  have z := hb.size
  have zh := h.hi
  exact ⟨fun i hi => (World.cell?_of_block (w := w) (a := ⟨o, i, none⟩) (hb.block o zh hne)).trans (h.cell i hi), fun i => (World.frozen?_of_block (w := w) (a := ⟨o, i, none⟩) (hb.block o zh hne)).trans (h.free i), by omega⟩
theorem own_made {w : World} {B n t : Nat} {z : Value} {w' : World} (h : w'.ownsRow B t 1 (.slice (some ⟨w.heap.size, 0, none⟩) n n) n (madeCells #[z] (n * 1)).toList) : Own w' w.heap.size n (fun _ => z) := by
  refine ⟨fun i hi => ?_, fun i => h.frozenAt i, (h.lt _ rfl).2⟩
  rw [h.cellAt i (by omega)]
  simp [madeCells, hi, Nat.mod_one]
/-- A row behind appends: at most what is owned. -/
theorem own_owned {w : World} {B t g n cap : Nat} {xs : List Value} (h : w.ownsRow B t 1 (.slice (some ⟨g, 0, none⟩) n cap) n xs) (f : Nat → Value) (hf : ∀ i, i < n → xs[i]? = some (f i)) : Own w g n f :=
  ⟨fun i hi => by rw [h.cellAt i (by omega)]; exact hf i hi, fun i => h.frozenAt i, (h.lt _ rfl).2⟩
end Go.Proofs.YtlcfpcapefeajaaDoor.Pl
namespace Go.Proofs.YtlcfpcapefeajaaDoor.Pl
open Go.ChangeShapes Go.WideShapes Go.ChangeAt Go.RowKit
theorem info4 : (Tryd.prog.info? 4).map (fun i => (i.zero, i.size, i.bytes)) = some (some (.bool false), 1, 1) := by kernel_rfl
theorem info39 : (Tryd.prog.info? 22).map (fun i => (i.zero, i.size, i.bytes)) = some (some (.int .u32 0), 1, 4) := by kernel_rfl
theorem info3 : (Tryd.prog.info? 3).map (fun i => (i.zero, i.size, i.bytes)) = some (some (.int .i64 0), 1, 8) := by kernel_rfl

set_option maxRecDepth 100000 in
set_option maxHeartbeats 1000000 in
theorem toU (n b off cap : Nat) (f : Nat → Int) (w : World) (hn : n ≤ 1048576) (hb : b < w.heap.size) (hc : ∀ i, i < n → w.cell? ⟨b, off + i, none⟩ = some (.int .u32 (f i))) :
    Calls Tryd.prog 27 #[.slice (some ⟨b, off, none⟩) n cap] w fun r w' => r = .returned (.slice (some ⟨w.heap.size, 0, none⟩) n n) ∧ Own w' w.heap.size n (fun i => .int .u32 (f i)) ∧ Below w.heap.size w w' := by
  obtain ⟨i0, hi, hz0, hz1, hz2⟩ := info_parts info39
  go_enter Tryd.func27, Tryd.ntmps27
  go_wp2_with (at_make; refine wpList_make_full _ rfl _ _ 42 rfl w.heap.size 22 i0 (.int .u32 0) 1 Tryd.underlying42 hi hz0 hz1 _ _ _ _ n rfl rfl (by first | rfl | omega) (by first | rfl | omega) (by rw [hz2]; omega) (by unfold maxLen; omega) (Nat.le_refl _) ?_; intro w1 hown hgrow)
  have O1 : Own w1 w.heap.size n (fun _ => .int .u32 0) := own_made hown
  have B1 : Below w.heap.size w w1 := (Below.refl _ _).grown hgrow (Nat.le_refl _) (by simp)
  clear hown hgrow hi hz0 hz1 hz2
  go_loopw [4] (fun i wr => ∃ k : Nat, k ≤ n ∧ i = .int .i64 k ∧ Own wr w.heap.size n (fun j => if j < k then .int .u32 (f j) else .int .u32 0) ∧ Below w.heap.size w wr) (fun i _ => n - (intOf i).toNat)
  case atStart => exact ⟨0, by omega, rfl, O1.mono (Nat.le_refl _) (fun j _ => by simp), B1⟩
  case round =>
    obtain ⟨k, hk, rfl, OK, BK⟩ := hrel
    by_cases hkn : k < n
    · have i1 : (k : Int) < (n : Int) := by omega
      have i0 : (0 : Int) ≤ (k : Int) := by omega
      have f0 := OK.free k
      have g0 : wr.cell? ⟨w.heap.size, k, none⟩ = some (.int .u32 0) := by have := OK.cell k hkn; simpa using this
      have c0 : wr.cell? ⟨b, off + k, none⟩ = some (.int .u32 (f k)) := (BK.cell (p := ⟨b, off + k, none⟩) hb).trans (hc k hkn)
      go_wp2
      go_roundw
      case rel => exact ⟨k + 1, by omega, by go_num, OK.set k _ hkn (fun j _ => by by_cases e1 : j = k; subst e1; simp; rw [if_neg e1]; by_cases e2 : j < k; rw [if_pos e2, if_pos (by omega)]; rw [if_neg e2, if_neg (by omega)]), BK.setCell (Nat.le_refl _) _⟩
      case measure => simp [intOf]; omega
    · have hkk : k = n := by omega
      subst hkk
      go_wp2
      go_ret
      exact ⟨rfl, OK.mono (Nat.le_refl _) (fun j hj => by simp [hj]), BK⟩
set_option maxRecDepth 100000 in
theorem toU0 (a : Option Addr) (cap : Nat) (f : Nat → Int) (w : World) :
    Calls Tryd.prog 27 #[.slice a 0 cap] w fun r w' => r = .returned (.slice (some ⟨w.heap.size, 0, none⟩) 0 0) ∧ Own w' w.heap.size 0 (fun i => .int .u32 (f i)) ∧ Below w.heap.size w w' := by
  obtain ⟨i0, hi, hz0, hz1, hz2⟩ := info_parts info39
  go_enter Tryd.func27, Tryd.ntmps27
  go_wp2_with (at_make; refine wpList_make_full _ rfl _ _ 42 rfl w.heap.size 22 i0 (.int .u32 0) 1 Tryd.underlying42 hi hz0 hz1 _ _ _ _ 0 rfl rfl (by first | rfl | omega) (by first | rfl | omega) (by rw [hz2]; omega) (by unfold maxLen; omega) (Nat.le_refl _) ?_; intro w1 hown hgrow)
  have O1 : Own w1 w.heap.size 0 (fun _ => .int .u32 0) := own_made hown
  have B1 : Below w.heap.size w w1 := (Below.refl _ _).grown hgrow (Nat.le_refl _) (by simp)
  clear hown hgrow hi hz0 hz1 hz2
  refine wp_loop_rounds 1 ?_
  rw [rounds_succ]
  go_wp2
  go_ret
  exact ⟨rfl, O1.mono (Nat.le_refl _) (fun j hj => by omega), B1⟩

set_option maxHeartbeats 1000000 in
theorem eqU (n a b ca cb : Nat) (f : Nat → Int) (w : World) (hn : n ≤ 1048576) (ha : ∀ i, i < n → w.cell? ⟨a, i, none⟩ = some (.int .u32 (f i))) (hb : ∀ i, i < n → w.cell? ⟨b, i, none⟩ = some (.int .u32 (f i))) :
    Calls Tryd.prog 29 #[.slice (some ⟨a, 0, none⟩) n ca, .slice (some ⟨b, 0, none⟩) n cb] w fun r w' => r = .returned (.bool true) ∧ ∃ k, w' = w.drewN k := by
  go_enter Tryd.func29, Tryd.ntmps29
  go_wp2
  go_loopw [5] (fun i wx => ∃ k q : Nat, k ≤ n ∧ i = .int .i64 k ∧ wx = w.drewN q) (fun i _ => n - (intOf i).toNat)
  case atStart => exact ⟨0, 0, by omega, rfl, rfl⟩
  case round =>
    obtain ⟨k, q, hk, rfl, rfl⟩ := hrel
    by_cases hkn : k < n
    · have c1 : w.cell? ⟨a, k, none⟩ = some (.int .u32 (f k)) := ha k hkn
      have c2 : w.cell? ⟨b, k, none⟩ = some (.int .u32 (f k)) := hb k hkn
      have i0 : (0 : Int) ≤ (k : Int) := by omega
      have i1 : (k : Int) < (n : Int) := by omega
      go_wp2
      go_quiet (fail)
      go_wp2
      go_roundw
      case rel => exact ⟨k + 1, _, by omega, by go_num, rfl⟩
      case measure => simp [intOf]; omega
    · have hkk : k = n := by omega
      subst hkk
      go_wp2
      go_ret
      exact ⟨rfl, q, rfl⟩
theorem eqU0 (a b : Option Addr) (ca cb : Nat) (w : World) :
    Calls Tryd.prog 29 #[.slice a 0 ca, .slice b 0 cb] w fun r w' => r = .returned (.bool true) ∧ w' = w := by
  go_enter Tryd.func29, Tryd.ntmps29
  go_wp2
  refine wp_loop_rounds 1 ?_
  rw [rounds_succ]
  go_wp2
  go_ret
  exact ⟨rfl, rfl⟩

end Go.Proofs.YtlcfpcapefeajaaDoor.Pl
namespace Go.Proofs.YtlcfpcapefeajaaDoor.Pl
open Go.ChangeShapes Go.WideShapes Go.ChangeAt Go.RowKit
/-- A slice that came in: n elements at a; of an empty one nothing is asked. -/
def Arg (w : World) (a : Option Addr) (n : Nat) (f : Nat → Value) : Prop := n = 0 ∨ ∃ b off, a = some ⟨b, off, none⟩ ∧ b < w.heap.size ∧ ∀ i, i < n → w.cell? ⟨b, off + i, none⟩ = some (f i)
theorem Arg.next {w w' : World} {a : Option Addr} {n : Nat} {f : Nat → Value} (h : Arg w a n f) (hb : Below w.heap.size w w') : Arg w' a n f := by
  rcases h with h | ⟨b, off, ha, hl, hc⟩
  · exact Or.inl h
  · exact Or.inr ⟨b, off, ha, by have := hb.size; omega, fun i hi => (hb.cell (p := ⟨b, off + i, none⟩) hl).trans (hc i hi)⟩
theorem Arg.drewN {w : World} {a : Option Addr} {n : Nat} {f : Nat → Value} (h : Arg w a n f) (q : Nat) : Arg (w.drewN q) a n f := h
theorem Arg.to {w0 w : World} {a : Option Addr} {n : Nat} {f : Nat → Value} (h : Arg w0 a n f) (hb : Below w0.heap.size w0 w) : Arg w a n f := h.next hb
theorem argU {w : World} {a : Option Addr} {n : Nat} {f : Nat → Int} (h : Arg w a n (fun i => .int .u32 (f i))) (cap : Nat) (hn : n ≤ 1048576) :
    Calls Tryd.prog 27 #[.slice a n cap] w fun r w' => r = .returned (.slice (some ⟨w.heap.size, 0, none⟩) n n) ∧ Own w' w.heap.size n (fun i => .int .u32 (f i)) ∧ Below w.heap.size w w' := by
  rcases h with rfl | ⟨b, off, rfl, hl, hc⟩
  · exact toU0 a cap f w
  · exact toU n b off cap f w hn hl hc
theorem zero_wf (k : IntKind) : (Lit.int k 0).wf = true := by cases k <;> rfl
section
variable {H : Type} {enc : TypeId × Value → H} {P : Program} {W : World} {base : Nat}
theorem view_ints {t e : TypeId} {k : IntKind} {v : Value} {d : DataW H} {p : List MemPlace} (ht : P.underlying t = some (.slice e)) (he : P.underlying e = some (.int k)) (hc : P.cellsOf e = 1)
    (hok : Value.okWide P W .any base t v) (h : DataW.Trod enc P W 0 (fun _ => true) true t v d p) (hlt : ∀ x ∈ p, x.block < W.heap.size) :
    ∃ (a : Option Addr) (len cap : Nat) (f : Nat → Int), v = .slice a len cap ∧ len ≤ 9223372036854775807 ∧ Arg W a len (fun i => .int k (f i)) ∧ ∀ i, (Lit.int k (f i)).wf = true := by
  obtain ⟨a0, len, cap, rfl⟩ := okWide_slice ht hok
  obtain ⟨fuel, hf⟩ := h
  rcases open_ints ht he hc hf with ⟨hcs, hx⟩ | ⟨a, len', cap', zs, hcs, _, hl, hm, hz, hx, hcell, hwz⟩
  · simp [Value.cells] at hcs
    obtain ⟨rfl, rfl, rfl⟩ := hcs
    exact ⟨_, 0, 0, fun _ => 0, rfl, by omega, Or.inl rfl, fun _ => zero_wf k⟩
  · simp [Value.cells] at hcs
    obtain ⟨rfl, rfl, rfl⟩ := hcs
    simp only [Prod.mk.injEq] at hx
    obtain ⟨rfl, rfl⟩ := hx
    simp only [if_true] at hz
    refine ⟨_, len, cap, fun i => zs.getD i 0, rfl, by unfold maxLen at hm; omega, ?_, fun i => ?_⟩
    · by_cases hl0 : len = 0
      · exact Or.inl hl0
      · obtain ⟨b, off, spot⟩ := a
        have hspot : spot = none := by simpa [Addr.add] using World.cell?_spot (hcell 0 (by omega))
        subst hspot
        have hbW : b < W.heap.size := hlt (.cell b off) (MemPlace.mem_row.2 ⟨0, by omega, by simp⟩)
        exact Or.inr ⟨b, off, rfl, hbW, fun j hj => by rw [← add_plain]; exact hcell j (by omega)⟩
    · show (Lit.int k (zs.getD i 0)).wf = true
      by_cases hi : i < zs.length
      · have e : zs.getD i 0 = zs[i] := by simp [List.getD, hi]
        rw [e]
        exact hwz _ (List.getElem_mem hi)
      · have e : zs.getD i 0 = 0 := by simp [List.getD, List.getElem?_eq_none (Nat.le_of_not_lt hi)]
        rw [e]
        exact zero_wf k
theorem view_bools {t e : TypeId} {v : Value} {d : DataW H} {p : List MemPlace} (ht : P.underlying t = some (.slice e)) (he : P.underlying e = some .bool) (hc : P.cellsOf e = 1)
    (hok : Value.okWide P W .any base t v) (h : DataW.Trod enc P W 0 (fun _ => true) true t v d p) (hlt : ∀ x ∈ p, x.block < W.heap.size) :
    ∃ (a : Option Addr) (len cap : Nat) (f : Nat → Bool), v = .slice a len cap ∧ len ≤ 9223372036854775807 ∧ Arg W a len (fun i => .bool (f i)) := by
  obtain ⟨a0, len, cap, rfl⟩ := okWide_slice ht hok
  obtain ⟨fuel, hf⟩ := h
  rcases Go.Deep.open_bools ht he hc hf with ⟨hcs, hx⟩ | ⟨a, len', cap', B, hcs, _, hl, hm, hx, hcell⟩
  · simp [Value.cells] at hcs
    obtain ⟨rfl, rfl, rfl⟩ := hcs
    exact ⟨_, 0, 0, fun _ => false, rfl, by omega, Or.inl rfl⟩
  · simp [Value.cells] at hcs
    obtain ⟨rfl, rfl, rfl⟩ := hcs
    simp only [Prod.mk.injEq] at hx
    obtain ⟨rfl, rfl⟩ := hx
    refine ⟨_, len, cap, B, rfl, by unfold maxLen at hm; omega, ?_⟩
    by_cases hl0 : len = 0
    · exact Or.inl hl0
    · obtain ⟨b, off, spot⟩ := a
      have hspot : spot = none := by simpa [Addr.add] using World.cell?_spot (hcell 0 (by omega))
      subst hspot
      have hbW : b < W.heap.size := hlt (.cell b off) (MemPlace.mem_row.2 ⟨0, by omega, by simp⟩)
      exact Or.inr ⟨b, off, rfl, hbW, fun j hj => by rw [← add_plain]; exact hcell j (by omega)⟩
end
end Go.Proofs.YtlcfpcapefeajaaDoor.Pl
namespace Go.Proofs.YtlcfpcapefeajaaDoor.Pl
open Go.ChangeShapes Go.WideShapes Go.ChangeAt Go.RowKit
/-- Whether lane i of a mask is on. -/
def onM (m : Int) (i : Nat) : Bool := (bits .and .i64 (m / 2 ^ i) 1 == 1)
theorem on30 (m : Int) (k : Nat) (w : World) (hk : k < 17) : Calls Tryd.prog 65 #[.int .i64 m, .int .i64 k] w fun e w' => e = .returned (.bool (onM m k)) ∧ w' = w := by
  go_enter Tryd.func65, Tryd.ntmps65
  go_wp2
  go_ret
  exact ⟨rfl, rfl⟩
theorem own_alloc (w : World) (cs : Array Value) (t n : Nat) (f : Nat → Value) (h : ∀ i, i < n → cs[i]? = some (f i)) : Own (w.alloc (.cells cs t)) w.heap.size n f := by
  refine ⟨fun i hi => ?_, fun i => ?_, by simp⟩
  · rw [cell_of_row _ w.heap.size i cs t (0, 0) (heap_alloc_new w _)]; exact h i hi
  · exact frozen_of_row _ w.heap.size i cs t (heap_alloc_new w _)
theorem lt16 {i : Nat} (h : i < 16) : i = 0 ∨ i = 1 ∨ i = 2 ∨ i = 3 ∨ i = 4 ∨ i = 5 ∨ i = 6 ∨ i = 7 ∨ i = 8 ∨ i = 9 ∨ i = 10 ∨ i = 11 ∨ i = 12 ∨ i = 13 ∨ i = 14 ∨ i = 15 := by omega
def zero16 : Array Value := #[.bool false, .bool false, .bool false, .bool false, .bool false, .bool false, .bool false, .bool false, .bool false, .bool false, .bool false, .bool false, .bool false, .bool false, .bool false, .bool false]
theorem zero16_get (i : Nat) (h : i < 16) : zero16[i]? = some (.bool false) := by
  rcases lt16 h with rfl | rfl | rfl | rfl | rfl | rfl | rfl | rfl | rfl | rfl | rfl | rfl | rfl | rfl | rfl | rfl <;> rfl
/-- The lanes of a mask as an array. -/
def lanesV (m : Int) : Array Value := #[.bool (onM m 0), .bool (onM m 1), .bool (onM m 2), .bool (onM m 3), .bool (onM m 4), .bool (onM m 5), .bool (onM m 6), .bool (onM m 7), .bool (onM m 8), .bool (onM m 9), .bool (onM m 10), .bool (onM m 11), .bool (onM m 12), .bool (onM m 13), .bool (onM m 14), .bool (onM m 15)]
theorem lanesV_get (m : Int) (i : Nat) (h : i < 16) : (lanesV m)[i]? = some (.bool (onM m i)) := by
  rcases lt16 h with rfl | rfl | rfl | rfl | rfl | rfl | rfl | rfl | rfl | rfl | rfl | rfl | rfl | rfl | rfl | rfl <;> rfl

def put16 (wr : World) (o : Nat) (m : Int) : World := ((((((((((((((((wr.setCell ⟨o, 0, none⟩ (.bool (onM m 0))).setCell ⟨o, 1, none⟩ (.bool (onM m 1))).setCell ⟨o, 2, none⟩ (.bool (onM m 2))).setCell ⟨o, 3, none⟩ (.bool (onM m 3))).setCell ⟨o, 4, none⟩ (.bool (onM m 4))).setCell ⟨o, 5, none⟩ (.bool (onM m 5))).setCell ⟨o, 6, none⟩ (.bool (onM m 6))).setCell ⟨o, 7, none⟩ (.bool (onM m 7))).setCell ⟨o, 8, none⟩ (.bool (onM m 8))).setCell ⟨o, 9, none⟩ (.bool (onM m 9))).setCell ⟨o, 10, none⟩ (.bool (onM m 10))).setCell ⟨o, 11, none⟩ (.bool (onM m 11))).setCell ⟨o, 12, none⟩ (.bool (onM m 12))).setCell ⟨o, 13, none⟩ (.bool (onM m 13))).setCell ⟨o, 14, none⟩ (.bool (onM m 14))).setCell ⟨o, 15, none⟩ (.bool (onM m 15)))
theorem only_put16 (wr : World) (o : Nat) (m : Int) : Only o wr (put16 wr o m) := (((((((((((((((((Only.refl _ _).setCell 0 _).setCell 1 _).setCell 2 _).setCell 3 _).setCell 4 _).setCell 5 _).setCell 6 _).setCell 7 _).setCell 8 _).setCell 9 _).setCell 10 _).setCell 11 _).setCell 12 _).setCell 13 _).setCell 14 _).setCell 15 _)
theorem step (m : Int) (k j : Nat) : (if j < k + 1 then Value.bool (onM m j) else .bool false) = if j = k then .bool (onM m k) else if j < k then .bool (onM m j) else .bool false := by
  by_cases e1 : j = k
  · subst e1; simp
  · rw [if_neg e1]
    by_cases e2 : j < k
    · rw [if_pos e2, if_pos (by omega)]
    · rw [if_neg e2, if_neg (by omega)]
theorem own_put16 {wr : World} {o : Nat} (h : Own wr o 16 (fun _ => .bool false)) (m : Int) : Own (put16 wr o m) o 16 (fun j => .bool (onM m j)) := by
  have h0 : Own wr o 16 (fun j => if j < 0 then .bool (onM m j) else .bool false) := h.mono (Nat.le_refl _) (fun j _ => by simp)
  have h1 := h0.set 0 (.bool (onM m 0)) (by omega) (g := fun j => if j < 1 then .bool (onM m j) else .bool false) (fun j _ => step m 0 j)
  have h2 := h1.set 1 (.bool (onM m 1)) (by omega) (g := fun j => if j < 2 then .bool (onM m j) else .bool false) (fun j _ => step m 1 j)
  have h3 := h2.set 2 (.bool (onM m 2)) (by omega) (g := fun j => if j < 3 then .bool (onM m j) else .bool false) (fun j _ => step m 2 j)
  have h4 := h3.set 3 (.bool (onM m 3)) (by omega) (g := fun j => if j < 4 then .bool (onM m j) else .bool false) (fun j _ => step m 3 j)
  have h5 := h4.set 4 (.bool (onM m 4)) (by omega) (g := fun j => if j < 5 then .bool (onM m j) else .bool false) (fun j _ => step m 4 j)
  have h6 := h5.set 5 (.bool (onM m 5)) (by omega) (g := fun j => if j < 6 then .bool (onM m j) else .bool false) (fun j _ => step m 5 j)
  have h7 := h6.set 6 (.bool (onM m 6)) (by omega) (g := fun j => if j < 7 then .bool (onM m j) else .bool false) (fun j _ => step m 6 j)
  have h8 := h7.set 7 (.bool (onM m 7)) (by omega) (g := fun j => if j < 8 then .bool (onM m j) else .bool false) (fun j _ => step m 7 j)
  have h9 := h8.set 8 (.bool (onM m 8)) (by omega) (g := fun j => if j < 9 then .bool (onM m j) else .bool false) (fun j _ => step m 8 j)
  have h10 := h9.set 9 (.bool (onM m 9)) (by omega) (g := fun j => if j < 10 then .bool (onM m j) else .bool false) (fun j _ => step m 9 j)
  have h11 := h10.set 10 (.bool (onM m 10)) (by omega) (g := fun j => if j < 11 then .bool (onM m j) else .bool false) (fun j _ => step m 10 j)
  have h12 := h11.set 11 (.bool (onM m 11)) (by omega) (g := fun j => if j < 12 then .bool (onM m j) else .bool false) (fun j _ => step m 11 j)
  have h13 := h12.set 12 (.bool (onM m 12)) (by omega) (g := fun j => if j < 13 then .bool (onM m j) else .bool false) (fun j _ => step m 12 j)
  have h14 := h13.set 13 (.bool (onM m 13)) (by omega) (g := fun j => if j < 14 then .bool (onM m j) else .bool false) (fun j _ => step m 13 j)
  have h15 := h14.set 14 (.bool (onM m 14)) (by omega) (g := fun j => if j < 15 then .bool (onM m j) else .bool false) (fun j _ => step m 14 j)
  have h16 := h15.set 15 (.bool (onM m 15)) (by omega) (g := fun j => if j < 16 then .bool (onM m j) else .bool false) (fun j _ => step m 15 j)
  exact h16.mono (Nat.le_refl _) (fun j hj => by rw [if_pos hj])
set_option maxRecDepth 100000 in
set_option maxHeartbeats 4000000 in
theorem lanes31 (m : Int) (w : World) : Calls Tryd.prog 45 #[.int .i64 m] w fun e w' => e = .returned (.agg #[.bool (onM m 0), .bool (onM m 1), .bool (onM m 2), .bool (onM m 3), .bool (onM m 4), .bool (onM m 5), .bool (onM m 6), .bool (onM m 7), .bool (onM m 8), .bool (onM m 9), .bool (onM m 10), .bool (onM m 11), .bool (onM m 12), .bool (onM m 13), .bool (onM m 14), .bool (onM m 15)]) ∧ Below w.heap.size w w' := by
  go_enter Tryd.func45, Tryd.ntmps45
  go_wp2
  go_loopw [5] (fun i wr => ∃ k : Nat, k ≤ 16 ∧ i = .int .i64 k ∧ Own wr (w.heap.size + 1) 16 (fun j => if j < k then .bool (onM m j) else .bool false) ∧ Own wr w.heap.size 16 (fun _ => .bool false) ∧ Below w.heap.size w wr) (fun i _ => 16 - (intOf i).toNat)
  case atStart =>
    refine ⟨0, by omega, rfl, ?_, ?_, ?_⟩
    · have := own_alloc (w.alloc (.cells zero16 62)) zero16 62 16 (fun _ => .bool false) zero16_get
      simp only [World.size_alloc] at this
      exact this.mono (Nat.le_refl _) (fun j _ => by simp)
    · exact (own_alloc w zero16 62 16 (fun _ => .bool false) zero16_get).next ((Below.refl _ _).alloc (Nat.le_refl _) _)
    · exact ((Below.refl _ _).alloc (Nat.le_refl _) _).alloc (by simp) _
  case round =>
    obtain ⟨k, hk, rfl, OK, OR, BK⟩ := hrel
    by_cases hkn : k < 16
    · have i1 : (k : Int) < 16 := by omega
      have i0 : (0 : Int) ≤ (k : Int) := by omega
      have f0 := OK.free k
      have g0 : wr.cell? ⟨w.heap.size + 1, k, none⟩ = some (.bool false) := by have := OK.cell k hkn; simpa using this
      go_wp2
      go_roundw
      case rel => exact ⟨k + 1, by omega, by go_num, OK.set k _ hkn (fun j _ => by by_cases e1 : j = k; subst e1; simp; rfl; rw [if_neg e1]; by_cases e2 : j < k; rw [if_pos e2, if_pos (by omega)]; rw [if_neg e2, if_neg (by omega)]), OR.but ((Only.refl _ _).setCell _ _) (by omega), BK.setCell (by simp) _⟩
      case measure => simp [intOf]; omega
    · have hkk : k = 16 := by omega
      subst hkk
      have x0 : wr.cell? ⟨w.heap.size + 1, 0, none⟩ = some (.bool (onM m 0)) := by have := OK.cell 0 (by omega); simpa using this
      have y0 : wr.cell? ⟨w.heap.size, 0, none⟩ = some (.bool false) := OR.cell 0 (by omega)
      have g0 := OR.free 0
      have x1 : wr.cell? ⟨w.heap.size + 1, 1, none⟩ = some (.bool (onM m 1)) := by have := OK.cell 1 (by omega); simpa using this
      have y1 : wr.cell? ⟨w.heap.size, 1, none⟩ = some (.bool false) := OR.cell 1 (by omega)
      have g1 := OR.free 1
      have x2 : wr.cell? ⟨w.heap.size + 1, 2, none⟩ = some (.bool (onM m 2)) := by have := OK.cell 2 (by omega); simpa using this
      have y2 : wr.cell? ⟨w.heap.size, 2, none⟩ = some (.bool false) := OR.cell 2 (by omega)
      have g2 := OR.free 2
      have x3 : wr.cell? ⟨w.heap.size + 1, 3, none⟩ = some (.bool (onM m 3)) := by have := OK.cell 3 (by omega); simpa using this
      have y3 : wr.cell? ⟨w.heap.size, 3, none⟩ = some (.bool false) := OR.cell 3 (by omega)
      have g3 := OR.free 3
      have x4 : wr.cell? ⟨w.heap.size + 1, 4, none⟩ = some (.bool (onM m 4)) := by have := OK.cell 4 (by omega); simpa using this
      have y4 : wr.cell? ⟨w.heap.size, 4, none⟩ = some (.bool false) := OR.cell 4 (by omega)
      have g4 := OR.free 4
      have x5 : wr.cell? ⟨w.heap.size + 1, 5, none⟩ = some (.bool (onM m 5)) := by have := OK.cell 5 (by omega); simpa using this
      have y5 : wr.cell? ⟨w.heap.size, 5, none⟩ = some (.bool false) := OR.cell 5 (by omega)
      have g5 := OR.free 5
      have x6 : wr.cell? ⟨w.heap.size + 1, 6, none⟩ = some (.bool (onM m 6)) := by have := OK.cell 6 (by omega); simpa using this
      have y6 : wr.cell? ⟨w.heap.size, 6, none⟩ = some (.bool false) := OR.cell 6 (by omega)
      have g6 := OR.free 6
      have x7 : wr.cell? ⟨w.heap.size + 1, 7, none⟩ = some (.bool (onM m 7)) := by have := OK.cell 7 (by omega); simpa using this
      have y7 : wr.cell? ⟨w.heap.size, 7, none⟩ = some (.bool false) := OR.cell 7 (by omega)
      have g7 := OR.free 7
      have x8 : wr.cell? ⟨w.heap.size + 1, 8, none⟩ = some (.bool (onM m 8)) := by have := OK.cell 8 (by omega); simpa using this
      have y8 : wr.cell? ⟨w.heap.size, 8, none⟩ = some (.bool false) := OR.cell 8 (by omega)
      have g8 := OR.free 8
      have x9 : wr.cell? ⟨w.heap.size + 1, 9, none⟩ = some (.bool (onM m 9)) := by have := OK.cell 9 (by omega); simpa using this
      have y9 : wr.cell? ⟨w.heap.size, 9, none⟩ = some (.bool false) := OR.cell 9 (by omega)
      have g9 := OR.free 9
      have x10 : wr.cell? ⟨w.heap.size + 1, 10, none⟩ = some (.bool (onM m 10)) := by have := OK.cell 10 (by omega); simpa using this
      have y10 : wr.cell? ⟨w.heap.size, 10, none⟩ = some (.bool false) := OR.cell 10 (by omega)
      have g10 := OR.free 10
      have x11 : wr.cell? ⟨w.heap.size + 1, 11, none⟩ = some (.bool (onM m 11)) := by have := OK.cell 11 (by omega); simpa using this
      have y11 : wr.cell? ⟨w.heap.size, 11, none⟩ = some (.bool false) := OR.cell 11 (by omega)
      have g11 := OR.free 11
      have x12 : wr.cell? ⟨w.heap.size + 1, 12, none⟩ = some (.bool (onM m 12)) := by have := OK.cell 12 (by omega); simpa using this
      have y12 : wr.cell? ⟨w.heap.size, 12, none⟩ = some (.bool false) := OR.cell 12 (by omega)
      have g12 := OR.free 12
      have x13 : wr.cell? ⟨w.heap.size + 1, 13, none⟩ = some (.bool (onM m 13)) := by have := OK.cell 13 (by omega); simpa using this
      have y13 : wr.cell? ⟨w.heap.size, 13, none⟩ = some (.bool false) := OR.cell 13 (by omega)
      have g13 := OR.free 13
      have x14 : wr.cell? ⟨w.heap.size + 1, 14, none⟩ = some (.bool (onM m 14)) := by have := OK.cell 14 (by omega); simpa using this
      have y14 : wr.cell? ⟨w.heap.size, 14, none⟩ = some (.bool false) := OR.cell 14 (by omega)
      have g14 := OR.free 14
      have x15 : wr.cell? ⟨w.heap.size + 1, 15, none⟩ = some (.bool (onM m 15)) := by have := OK.cell 15 (by omega); simpa using this
      have y15 : wr.cell? ⟨w.heap.size, 15, none⟩ = some (.bool false) := OR.cell 15 (by omega)
      have g15 := OR.free 15
      clear OK
      go_wp2
      have O := own_put16 OR m
      have B : Below w.heap.size w (put16 wr w.heap.size m) := BK.trans ((only_put16 wr w.heap.size m).below (Nat.le_refl _) BK.size)
      show bodyPost Tryd.prog Tryd.f45 _ _ _ (put16 wr w.heap.size m)
      generalize put16 wr w.heap.size m = W' at O B
      have z0 := O.cell 0 (by omega)
      have z1 := O.cell 1 (by omega)
      have z2 := O.cell 2 (by omega)
      have z3 := O.cell 3 (by omega)
      have z4 := O.cell 4 (by omega)
      have z5 := O.cell 5 (by omega)
      have z6 := O.cell 6 (by omega)
      have z7 := O.cell 7 (by omega)
      have z8 := O.cell 8 (by omega)
      have z9 := O.cell 9 (by omega)
      have z10 := O.cell 10 (by omega)
      have z11 := O.cell 11 (by omega)
      have z12 := O.cell 12 (by omega)
      have z13 := O.cell 13 (by omega)
      have z14 := O.cell 14 (by omega)
      have z15 := O.cell 15 (by omega)
      exact bodyPost_ret (v := .agg #[.bool (onM m 0), .bool (onM m 1), .bool (onM m 2), .bool (onM m 3), .bool (onM m 4), .bool (onM m 5), .bool (onM m 6), .bool (onM m 7), .bool (onM m 8), .bool (onM m 9), .bool (onM m 10), .bool (onM m 11), .bool (onM m 12), .bool (onM m 13), .bool (onM m 14), .bool (onM m 15)]) (by simp [results, Tryd.results45, go_sem, z0, z1, z2, z3, z4, z5, z6, z7, z8, z9, z10, z11, z12, z13, z14, z15]) rfl ⟨rfl, B⟩
end Go.Proofs.YtlcfpcapefeajaaDoor.Pl
namespace Go.Proofs.YtlcfpcapefeajaaDoor.Pl
open Go.ChangeShapes Go.WideShapes Go.ChangeAt Go.RowKit
/-- The words of the lanes below k that are on. -/
def pk (d : Nat → Int) (m : Int) : Nat → List Int
  | 0 => []
  | k + 1 => if onM m k then pk d m k ++ [d k] else pk d m k
theorem pk_on (d : Nat → Int) (m : Int) (k : Nat) (h : onM m k = true) : pk d m (k + 1) = pk d m k ++ [d k] := by simp [pk, h]
theorem pk_off (d : Nat → Int) (m : Int) (k : Nat) (h : onM m k = false) : pk d m (k + 1) = pk d m k := by simp [pk, h]
theorem pk_le (d : Nat → Int) (m : Int) : ∀ k, (pk d m k).length ≤ k
  | 0 => by simp [pk]
  | k + 1 => by
    have := pk_le d m k
    cases h : onM m k
    · rw [pk_off d m k h]; omega
    · rw [pk_on d m k h]; simp; omega
theorem ownsRow_lower {w : World} {b e size n : Nat} {v : Value} {xs : List Value} (h : w.ownsRow (b + 1) e size v n xs) : w.ownsRow b e size v n xs := by
  obtain ⟨h1, h2 | ⟨g, cap, cur, hv, hg, r⟩⟩ := h
  · exact ⟨h1, Or.inl h2⟩
  · exact ⟨h1, Or.inr ⟨g, cap, cur, hv, by omega, r⟩⟩
set_option maxRecDepth 100000 in
set_option maxHeartbeats 2000000 in
theorem pick32 (n a ca : Nat) (d : Nat → Int) (m : Int) (w : World) (hn : n ≤ 16) (la : a < w.heap.size) (hc : ∀ i, i < n → w.cell? ⟨a, i, none⟩ = some (.int .u32 (d i))) :
    Calls Tryd.prog 44 #[.slice (some ⟨a, 0, none⟩) n ca, .int .i64 m] w fun r w' => ∃ v, r = .returned v ∧ w'.ownsRow w.heap.size 22 1 v (pk d m n).length ((pk d m n).map (Value.int .u32)) ∧ Below w.heap.size w w' := by
  have HC : Hid (∀ i, i < n → w.cell? ⟨a, i, none⟩ = some (.int .u32 (d i))) := hc
  clear hc
  obtain ⟨i0, hi, hz0, hz1, hz2⟩ := info_parts info39
  go_enter Tryd.func44, Tryd.ntmps44
  go_wp2

  go_loopw [5, 10] (fun v i wr => ∃ k : Nat, k ≤ n ∧ i = .int .i64 k ∧ wr.ownsRow w.heap.size 22 1 v (pk d m k).length ((pk d m k).map (Value.int .u32)) ∧ Below w.heap.size w wr) (fun _ i _ => n - (intOf i).toNat)
  case atStart => exact ⟨0, Nat.zero_le _, rfl, World.ownsRow_nil _ _ _ _, Below.refl _ _⟩
  case round =>
    obtain ⟨k, hk, rfl, hown, hB⟩ := hrel
    by_cases hkn : k < n
    · have i0' : (0 : Int) ≤ (k : Int) := by omega
      have i1 : (k : Int) < (n : Int) := by omega
      have i2 : (k : Int) < 16 := by omega
      have cx : wr.cell? ⟨a, k, none⟩ = some (.int .u32 (d k)) := (hB.cell (p := ⟨a, k, none⟩) (la)).trans (HC.out k hkn)
      have pl := pk_le d m k
      cases ho : onM m k
      · have HO : Hid (onM m k = false) := ho
        clear ho
        go_wp2_with (go_at_call 65; refine (on30 _ _ _ (by omega)).mono ?_; rintro e w' ⟨rfl, hw'⟩; subst w'; rw [HO.out])
        go_roundw
        case rel => exact ⟨k + 1, by omega, by go_num, by rw [pk_off d m k HO.out]; exact hown, hB⟩
        case measure => simp [intOf]; omega
      · have HO : Hid (onM m k = true) := ho
        clear ho
        go_wp2_with (first | (go_at_call 65; refine (on30 _ _ _ (by omega)).mono ?_; rintro e w' ⟨rfl, hw'⟩; subst w'; rw [HO.out]) | (at_builtin; refine wpList_append_own _ rfl _ _ 42 rfl (w.heap.size) 22 i0 (.int .u32 0) 1 4 Tryd.underlying42 hi hz0 hz1 hz2 rfl (by decide) _ _ _ rfl (hown.alloc _) ⟨wr.heap.size, 0, none⟩ 1 1 [.int .u32 (d k)] rfl rfl ?c1 ?c2 ?c3 ?c4 ?c5 ?_))
        case c1 =>
          intro j u hj
          match j, hj with
          | 0, hj => simp at hj; subst hj; simp [Addr.add]
        case c2 => intro u hu; simp at hu; subst hu; rfl
        case c3 => unfold maxLen; omega
        case c4 => omega
        case c5 => have := hB.size; simp at this ⊢; omega
        · intro v' w1 hown' hgrow _
          have R1 : w1.ownsRow w.heap.size 22 1 v' (pk d m (k + 1)).length ((pk d m (k + 1)).map (Value.int .u32)) := by rw [pk_on d m k HO.out]; simpa using hown'
          have R2 : Below w.heap.size w w1 := (hB.alloc (by have := hB.size; simp at this ⊢; omega) _).grown hgrow (by have := hB.size; simp at this ⊢; omega) (fun q hq => by have := (hown.lt q hq).1; omega)
          clear hown' hgrow hown hB cx
          go_wp2
          go_roundw
          case rel => exact ⟨k + 1, by omega, by go_num, R1, R2⟩
          case measure => simp [intOf]; omega
    · have hkk : k = n := by omega
      subst hkk
      go_wp2
      go_ret
      exact ⟨_, rfl, hown, hB⟩

set_option maxRecDepth 100000 in
set_option maxHeartbeats 2000000 in
theorem pick33 (n a ca : Nat) (d : Nat → Int) (m : Int) (w : World) (hn : n ≤ 16) (la : a < w.heap.size) (hc : ∀ i, i < n → w.cell? ⟨a, i, none⟩ = some (.int .u32 (d i))) :
    Calls Tryd.prog 47 #[.slice (some ⟨a, 0, none⟩) n ca, .agg #[.bool (onM m 0), .bool (onM m 1), .bool (onM m 2), .bool (onM m 3), .bool (onM m 4), .bool (onM m 5), .bool (onM m 6), .bool (onM m 7), .bool (onM m 8), .bool (onM m 9), .bool (onM m 10), .bool (onM m 11), .bool (onM m 12), .bool (onM m 13), .bool (onM m 14), .bool (onM m 15)]] w fun r w' => ∃ v, r = .returned v ∧ w'.ownsRow w.heap.size 22 1 v (pk d m n).length ((pk d m n).map (Value.int .u32)) ∧ Below w.heap.size w w' := by
  have HC : Hid (∀ i, i < n → w.cell? ⟨a, i, none⟩ = some (.int .u32 (d i))) := hc
  clear hc
  obtain ⟨i0, hi, hz0, hz1, hz2⟩ := info_parts info39
  have OB := own_alloc w (lanesV m) 62 16 (fun j => .bool (onM m j)) (lanesV_get m)
  go_enter Tryd.func47, Tryd.ntmps47
  go_wp2

  go_loopw [5, 10] (fun v i wr => ∃ k : Nat, k ≤ n ∧ i = .int .i64 k ∧ wr.ownsRow (w.heap.size + 1) 22 1 v (pk d m k).length ((pk d m k).map (Value.int .u32)) ∧ Below (w.heap.size + 1) (w.alloc (.cells (lanesV m) 62)) wr) (fun _ i _ => n - (intOf i).toNat)
  case atStart => exact ⟨0, Nat.zero_le _, rfl, World.ownsRow_nil _ _ _ _, Below.refl _ _⟩
  case round =>
    obtain ⟨k, hk, rfl, hown, hB⟩ := hrel
    by_cases hkn : k < n
    · have i0' : (0 : Int) ≤ (k : Int) := by omega
      have i1 : (k : Int) < (n : Int) := by omega
      have i2 : (k : Int) < 16 := by omega
      have cx : wr.cell? ⟨a, k, none⟩ = some (.int .u32 (d k)) := (hB.cell (p := ⟨a, k, none⟩) (show a < w.heap.size + 1 by omega)).trans ((World.cell?_alloc_past _ _ _ la).trans (HC.out k hkn))
      have cy : wr.cell? ⟨w.heap.size, k, none⟩ = some (.bool (onM m k)) := (hB.cell (p := ⟨w.heap.size, k, none⟩) (by simp)).trans (OB.cell k (by omega))
      have pl := pk_le d m k
      cases ho : onM m k
      · have HO : Hid (onM m k = false) := ho
        rw [ho] at cy
        clear ho
        go_wp2
        go_roundw
        case rel => exact ⟨k + 1, by omega, by go_num, by rw [pk_off d m k HO.out]; exact hown, hB⟩
        case measure => simp [intOf]; omega
      · have HO : Hid (onM m k = true) := ho
        rw [ho] at cy
        clear ho
        go_wp2_with (at_builtin; refine wpList_append_own _ rfl _ _ 42 rfl (w.heap.size + 1) 22 i0 (.int .u32 0) 1 4 Tryd.underlying42 hi hz0 hz1 hz2 rfl (by decide) _ _ _ rfl (hown.alloc _) ⟨wr.heap.size, 0, none⟩ 1 1 [.int .u32 (d k)] rfl rfl ?c1 ?c2 ?c3 ?c4 ?c5 ?_)
        case c1 =>
          intro j u hj
          match j, hj with
          | 0, hj => simp at hj; subst hj; simp [Addr.add]
        case c2 => intro u hu; simp at hu; subst hu; rfl
        case c3 => unfold maxLen; omega
        case c4 => omega
        case c5 => have := hB.size; simp at this ⊢; omega
        · intro v' w1 hown' hgrow _
          have R1 : w1.ownsRow (w.heap.size + 1) 22 1 v' (pk d m (k + 1)).length ((pk d m (k + 1)).map (Value.int .u32)) := by rw [pk_on d m k HO.out]; simpa using hown'
          have R2 : Below (w.heap.size + 1) (w.alloc (.cells (lanesV m) 62)) w1 := (hB.alloc (by have := hB.size; simp at this ⊢; omega) _).grown hgrow (by have := hB.size; simp at this ⊢; omega) (fun q hq => by have := (hown.lt q hq).1; omega)
          clear hown' hgrow hown hB cx
          go_wp2
          go_roundw
          case rel => exact ⟨k + 1, by omega, by go_num, R1, R2⟩
          case measure => simp [intOf]; omega
    · have hkk : k = n := by omega
      subst hkk
      go_wp2
      go_ret
      exact ⟨_, rfl, ownsRow_lower hown, ((Below.refl _ _).alloc (Nat.le_refl _) _).trans (hB.mono (by omega))⟩

end Go.Proofs.YtlcfpcapefeajaaDoor.Pl
namespace Go.Proofs.YtlcfpcapefeajaaDoor.Pl
open Go.ChangeShapes Go.WideShapes Go.ChangeAt Go.RowKit
def goodM (n m : Int) : Bool := decide (0 ≤ n ∧ n ≤ 16 ∧ 0 ≤ m ∧ m < 2 ^ n.toNat)
theorem le16 {n : Int} (h0 : 0 ≤ n) (h1 : n ≤ 16) : n = 0 ∨ n = 1 ∨ n = 2 ∨ n = 3 ∨ n = 4 ∨ n = 5 ∨ n = 6 ∨ n = 7 ∨ n = 8 ∨ n = 9 ∨ n = 10 ∨ n = 11 ∨ n = 12 ∨ n = 13 ∨ n = 14 ∨ n = 15 ∨ n = 16 := by omega
theorem good_of {n m : Int} {p : Prop} [Decidable p] (h : (0 ≤ n ∧ n ≤ 16 ∧ 0 ≤ m ∧ m < 2 ^ n.toNat) ↔ p) : goodM n m = decide p := by
  unfold goodM; simp only [h]
set_option maxHeartbeats 2000000 in
theorem gm9 (n m : Int) (w : World) : Calls Tryd.prog 42 #[.int .i64 n, .int .i64 m] w fun e w' => e = .returned (.bool (goodM n m)) ∧ w' = w := by
  by_cases h1 : 0 ≤ n
  case neg =>
    rw [show goodM n m = false by unfold goodM; simp; omega]
    go_enter Tryd.func42, Tryd.ntmps42
    go_wp2
    go_ret
    exact ⟨rfl, rfl⟩
  by_cases h2 : n ≤ 16
  case neg =>
    rw [show goodM n m = false by unfold goodM; simp; omega]
    go_enter Tryd.func42, Tryd.ntmps42
    go_wp2
    go_ret
    exact ⟨rfl, rfl⟩
  by_cases h3 : 0 ≤ m
  case neg =>
    rw [show goodM n m = false by unfold goodM; simp; omega]
    go_enter Tryd.func42, Tryd.ntmps42
    go_wp2
    go_ret
    exact ⟨rfl, rfl⟩
  have e : goodM n m = decide (m < 2 ^ n.toNat) := by unfold goodM; simp [h1, h2, h3]
  rw [e]
  clear e
  rcases le16 h1 h2 with rfl | rfl | rfl | rfl | rfl | rfl | rfl | rfl | rfl | rfl | rfl | rfl | rfl | rfl | rfl | rfl | rfl
  all_goals
    go_enter Tryd.func42, Tryd.ntmps42
    go_wp2
    go_ret
    exact ⟨by simp, rfl⟩
set_option maxHeartbeats 2000000 in
theorem gm10 (n m : Int) (w : World) : Calls Tryd.prog 40 #[.int .i64 n, .int .i64 m] w fun e w' => e = .returned (.bool (goodM n m)) ∧ w' = w := by
  by_cases h1 : 0 ≤ n
  case neg =>
    rw [show goodM n m = false by unfold goodM; simp; omega]
    go_enter Tryd.func40, Tryd.ntmps40
    go_wp2
    go_ret
    exact ⟨rfl, rfl⟩
  by_cases h2 : n ≤ 16
  case neg =>
    rw [show goodM n m = false by unfold goodM; simp; omega]
    go_enter Tryd.func40, Tryd.ntmps40
    go_wp2
    go_ret
    exact ⟨rfl, rfl⟩
  by_cases h3 : 0 ≤ m
  case neg =>
    rw [show goodM n m = false by unfold goodM; simp; omega]
    go_enter Tryd.func40, Tryd.ntmps40
    go_wp2
    go_ret
    exact ⟨rfl, rfl⟩
  have e : goodM n m = decide (m < 2 ^ n.toNat) := by unfold goodM; simp [h1, h2, h3]
  rw [e]
  clear e
  rcases le16 h1 h2 with rfl | rfl | rfl | rfl | rfl | rfl | rfl | rfl | rfl | rfl | rfl | rfl | rfl | rfl | rfl | rfl | rfl
  all_goals
    go_enter Tryd.func40, Tryd.ntmps40
    go_wp2
    go_ret
    exact ⟨by simp, rfl⟩
end Go.Proofs.YtlcfpcapefeajaaDoor.Pl
namespace Go.Proofs.YtlcfpcapefeajaaDoor.Pl
open Go.ChangeShapes Go.WideShapes Go.ChangeAt Go.RowKit
theorem shape {w : World} {b : Nat} {v : Value} {xs : List Int} (h : w.ownsRow b 22 1 v xs.length (xs.map (Value.int .u32))) :
    (v = .slice none 0 0 ∧ Hid (xs = [])) ∨ ∃ g cap, v = .slice (some ⟨g, 0, none⟩) xs.length cap ∧ b ≤ g ∧ Own w g xs.length (fun i => .int .u32 (xs.getD i 0)) := by
  have h' := h
  obtain ⟨_, ⟨h1, h2⟩ | ⟨g, cap, cur, rfl, hg, r⟩⟩ := h
  · exact Or.inl ⟨h1, List.length_eq_zero_iff.1 h2⟩
  · exact Or.inr ⟨g, cap, rfl, hg, own_owned h' _ (fun i hi => by simp [List.getD, hi])⟩
/-- The sum of the first k numbers, as words wrap. -/
def su (l : List Int) : Nat → Int
  | 0 => 0
  | k + 1 => (su l k + l.getD k 0) % 4294967296

end Go.Proofs.YtlcfpcapefeajaaDoor.Pl
namespace Go.Proofs.YtlcfpcapefeajaaDoor.Pl
open Go.ChangeShapes Go.WideShapes Go.ChangeAt Go.RowKit
def red (op a b : Int) : Int :=
  if op = 1 then (if wrap32 b < wrap32 a then b else a) else if op = 2 then (if wrap32 a < wrap32 b then b else a) else if op = 3 then bits .and .u32 a b else if op = 4 then bits .or .u32 a b else bits .xor .u32 a b
theorem wrap32_back (a : Int) (h0 : 0 ≤ a) (h1 : a < 4294967296) : wrap32 a % 4294967296 = a := by
  simp only [wrap32]; omega
def inW (a : Int) : Prop := 0 ≤ a ∧ a < 4294967296
theorem red_in (op a b : Int) (ho : op = 1 ∨ op = 2) (ha : inW a) (hb : inW b) : inW (red op a b) := by
  unfold red
  rcases ho with rfl | rfl
  · rw [if_pos rfl]; split <;> assumption
  · rw [if_neg (by decide), if_pos rfl]; split <;> assumption
theorem onM_iff (m : Int) (i : Nat) (h0 : 0 ≤ m) (h1 : m < 65536) : onM m i = decide (m / 2 ^ i % 2 = 1) := by
  unfold onM
  obtain ⟨x, hx⟩ : ∃ x, m / 2 ^ i = x := ⟨_, rfl⟩
  have x0 : 0 ≤ x := by rw [← hx]; exact Int.ediv_nonneg h0 (Int.le_of_lt (Int.pow_pos (by decide)))
  have x1 : x ≤ m := by rw [← hx]; exact Int.ediv_le_self _ h0
  rw [hx]
  have x2 : x < 65536 := by omega
  clear hx h0 h1 x1
  have hb : bits .and .i64 x 1 = x % 2 := by
    obtain ⟨k, rfl⟩ := Int.eq_ofNat_of_zero_le x0
    have hn : (BitVec.ofInt IntKind.i64.bits (k : Int) &&& BitVec.ofInt IntKind.i64.bits 1).toNat = k % 2 := by
      rw [BitVec.toNat_and, BitVec.toNat_ofInt, BitVec.toNat_ofInt]
      have e1 : ((k : Int) % ((2 ^ IntKind.i64.bits : Nat) : Int)).toNat = k := by
        show ((k : Int) % 18446744073709551616).toNat = k
        omega
      have e2 : ((1 : Int) % ((2 ^ IntKind.i64.bits : Nat) : Int)).toNat = 1 := by rfl
      rw [e1, e2, Nat.and_one_is_mod]
    show IntKind.i64.wrap ((BitVec.ofInt IntKind.i64.bits (k : Int) &&& BitVec.ofInt IntKind.i64.bits 1).toNat : Int) = (k : Int) % 2
    rw [hn, IntKind.wrap_i64]
    omega
  rw [hb, Bool.eq_iff_iff]
  simp
theorem pow2_le {a b : Nat} (h : a ≤ b) : (2 : Int) ^ a ≤ 2 ^ b := by
  have e : ∀ c : Nat, (2 : Int) ^ c = ((2 ^ c : Nat) : Int) := fun c => by simp
  rw [e, e]
  exact Int.ofNat_le.2 (Nat.pow_le_pow_right (by decide) h)
theorem nat_zero : ∀ (N k : Nat), k < 2 ^ N → (∀ i, i < N → ¬ k / 2 ^ i % 2 = 1) → k = 0
  | 0, k, h, _ => by simpa using h
  | N + 1, k, h, hi => by
    have h0 := hi 0 (by omega)
    simp at h0
    have h1 : k / 2 = 0 := nat_zero N (k / 2) (by rw [Nat.pow_succ] at h; omega) (fun i hN => by
      have := hi (i + 1) (by omega)
      rw [Nat.pow_succ, Nat.mul_comm, ← Nat.div_div_eq_div_mul] at this
      exact this)
    omega
theorem zero_of_off (m : Int) (h0 : 0 ≤ m) (h1 : m < 65536) (h : ∀ i, i < 16 → onM m i = false) : m = 0 := by
  obtain ⟨k, rfl⟩ := Int.eq_ofNat_of_zero_le h0
  have := nat_zero 16 k (by show k < 65536; omega) (fun i hi hh => by
    have := h i hi
    rw [onM_iff _ i h0 h1] at this
    simp only [decide_eq_false_iff_not] at this
    apply this
    have e : ((k : Int) / 2 ^ i % 2) = ((k / 2 ^ i % 2 : Nat) : Int) := by simp
    rw [e, hh]; rfl)
  rw [this]; rfl
theorem off_of_nil (d : Nat → Int) (m : Int) : ∀ n, pk d m n = [] → ∀ i, i < n → onM m i = false
  | 0, _, i, hi => by omega
  | n + 1, h, i, hi => by
    cases ho : onM m n
    · rw [pk_off d m n ho] at h
      by_cases e : i = n
      · rw [e]; exact ho
      · exact off_of_nil d m n h i (by omega)
    · rw [pk_on d m n ho] at h; simp at h
theorem good_parts {n : Nat} {m : Int} (h : goodM n m = true) : 0 ≤ m ∧ m < 2 ^ n ∧ m < 65536 := by
  unfold goodM at h
  simp only [decide_eq_true_eq, Int.toNat_natCast] at h
  refine ⟨h.2.2.1, h.2.2.2, Int.lt_of_lt_of_le h.2.2.2 ?_⟩
  have : (2 : Int) ^ n ≤ 2 ^ 16 := pow2_le (by omega)
  simpa using this
theorem pk_some (d : Nat → Int) {n : Nat} {m : Int} (hg : goodM n m = true) (hm : m ≠ 0) : pk d m n ≠ [] := by
  intro h
  obtain ⟨h0, hn, h1⟩ := good_parts hg
  refine hm (zero_of_off m h0 h1 (fun i _ => ?_))
  by_cases hi : i < n
  · exact off_of_nil d m n h i hi
  · rw [onM_iff m i h0 h1]
    have : m / 2 ^ i = 0 := Int.ediv_eq_zero_of_lt h0 (Int.lt_of_lt_of_le hn (pow2_le (by omega)))
    rw [this]; rfl
theorem on_zero (i : Nat) : onM 0 i = false := by
  rw [onM_iff 0 i (by decide) (by decide)]; simp
theorem pk_in (d : Nat → Int) (m : Int) (hd : ∀ i, inW (d i)) : ∀ n, ∀ x ∈ pk d m n, inW x
  | 0, x, hx => by simp [pk] at hx
  | n + 1, x, hx => by
    cases ho : onM m n
    · rw [pk_off d m n ho] at hx; exact pk_in d m hd n x hx
    · rw [pk_on d m n ho] at hx
      rcases List.mem_append.1 hx with h | h
      · exact pk_in d m hd n x h
      · simp at h; rw [h]; exact hd n
end Go.Proofs.YtlcfpcapefeajaaDoor.Pl
namespace Go.Proofs.YtlcfpcapefeajaaDoor.Pl
open Go.ChangeShapes Go.WideShapes Go.ChangeAt Go.RowKit
set_option maxRecDepth 100000 in
set_option maxHeartbeats 4000000 in
theorem eq48 (b0 b1 b2 b3 b4 b5 b6 b7 b8 b9 b10 b11 b12 b13 b14 b15 : Bool) (w : World) : (Op.equalIn 10000 62 (.agg #[.bool b0, .bool b1, .bool b2, .bool b3, .bool b4, .bool b5, .bool b6, .bool b7, .bool b8, .bool b9, .bool b10, .bool b11, .bool b12, .bool b13, .bool b14, .bool b15]) (.agg #[.bool false, .bool false, .bool false, .bool false, .bool false, .bool false, .bool false, .bool false, .bool false, .bool false, .bool false, .bool false, .bool false, .bool false, .bool false, .bool false])).run Tryd.prog w = .ok (!(b0 || b1 || b2 || b3 || b4 || b5 || b6 || b7 || b8 || b9 || b10 || b11 || b12 || b13 || b14 || b15)) w := by
  have u4 := Tryd.underlying4
  have a4 := Tryd.isAgg4
  have z4 := Tryd.sizeOf4
  rw [show (10000 : Nat) = 9999 + 1 from rfl, Op.equalIn]
  simp only [Sem.run_bind, run_underlying Tryd.underlying62, Result.andThen_ok]
  simp only [Std.Legacy.Range.forIn_eq_forIn_range', Std.Legacy.Range.size, Nat.sub_zero, Nat.add_sub_cancel, Nat.div_one, List.range'_succ, List.range'_zero, List.forIn_cons, List.forIn_nil]
  go_simp
  cases b0
  case true => simp
  cases b1
  case true => simp
  cases b2
  case true => simp
  cases b3
  case true => simp
  cases b4
  case true => simp
  cases b5
  case true => simp
  cases b6
  case true => simp
  cases b7
  case true => simp
  cases b8
  case true => simp
  cases b9
  case true => simp
  cases b10
  case true => simp
  cases b11
  case true => simp
  cases b12
  case true => simp
  cases b13
  case true => simp
  cases b14
  case true => simp
  cases b15
  case true => simp
  rfl
theorem lanes_zero (m : Int) (h0 : 0 ≤ m) (h1 : m < 65536) : (!(onM m 0 || onM m 1 || onM m 2 || onM m 3 || onM m 4 || onM m 5 || onM m 6 || onM m 7 || onM m 8 || onM m 9 || onM m 10 || onM m 11 || onM m 12 || onM m 13 || onM m 14 || onM m 15)) = decide (m = 0) := by
  by_cases hm : m = 0
  · subst hm; simp [on_zero]
  · rw [decide_eq_false hm]
    cases hb : (!(onM m 0 || onM m 1 || onM m 2 || onM m 3 || onM m 4 || onM m 5 || onM m 6 || onM m 7 || onM m 8 || onM m 9 || onM m 10 || onM m 11 || onM m 12 || onM m 13 || onM m 14 || onM m 15))
    · rfl
    · refine absurd (zero_of_off m h0 h1 (fun i hi => ?_)) hm
      simp at hb
      rcases lt16 hi with rfl | rfl | rfl | rfl | rfl | rfl | rfl | rfl | rfl | rfl | rfl | rfl | rfl | rfl | rfl | rfl <;> simp [hb]
theorem eqLanes (m : Int) (h0 : 0 ≤ m) (h1 : m < 65536) (w : World) : (Op.equalIn 10000 62 (.agg #[.bool (onM m 0), .bool (onM m 1), .bool (onM m 2), .bool (onM m 3), .bool (onM m 4), .bool (onM m 5), .bool (onM m 6), .bool (onM m 7), .bool (onM m 8), .bool (onM m 9), .bool (onM m 10), .bool (onM m 11), .bool (onM m 12), .bool (onM m 13), .bool (onM m 14), .bool (onM m 15)]) (.agg #[.bool false, .bool false, .bool false, .bool false, .bool false, .bool false, .bool false, .bool false, .bool false, .bool false, .bool false, .bool false, .bool false, .bool false, .bool false, .bool false])).run Tryd.prog w = .ok (decide (m = 0)) w := by
  rw [eq48, lanes_zero m h0 h1]
end Go.Proofs.YtlcfpcapefeajaaDoor.Pl
namespace Go.Proofs.YtlcfpcapefeajaaDoor.Pl
open Go.ChangeShapes Go.WideShapes Go.ChangeAt Go.RowKit
/-- What comes of the first k + 1 numbers. -/
def rd (l : List Int) (op : Int) : Nat → Int
  | 0 => l.getD 0 0
  | k + 1 => red op (rd l op k) (l.getD (k + 1) 0)
theorem pk_getD (d : Nat → Int) (m : Int) (hd : ∀ i, inW (d i)) (n i : Nat) : inW ((pk d m n).getD i 0) := by
  by_cases h : i < (pk d m n).length
  · have e : (pk d m n).getD i 0 = (pk d m n)[i] := by simp [List.getD, h]
    rw [e]; exact pk_in d m hd n _ (List.getElem_mem h)
  · have e : (pk d m n).getD i 0 = 0 := by simp [List.getD, List.getElem?_eq_none (Nat.le_of_not_lt h)]
    rw [e]; exact ⟨by decide, by decide⟩
theorem shape2 {w : World} {b : Nat} {v : Value} {xs : List Int} (h : w.ownsRow b 22 1 v xs.length (xs.map (Value.int .u32))) (hx : xs ≠ []) :
    (∃ g s0, v = .slice (some ⟨g, 0, none⟩) 1 1 ∧ Hid (xs.length = 1) ∧ Hid (xs.getD 0 0 = s0) ∧ w.cell? ⟨g, 0, none⟩ = some (.int .u32 s0)) ∨
    ∃ N g cap s0, v = .slice (some ⟨g, 0, none⟩) (N + 1) cap ∧ N + 1 ≤ cap ∧ ¬ cap = 1 ∧ Hid (xs.length = N + 1) ∧ Hid (xs.getD 0 0 = s0) ∧ w.cell? ⟨g, 0, none⟩ = some (.int .u32 s0) ∧ Hid (∀ i, i < N + 1 → w.cell? ⟨g, i, none⟩ = some (.int .u32 (xs.getD i 0))) := by
  obtain ⟨N, hN⟩ : ∃ N, xs.length = N + 1 := ⟨xs.length - 1, by have := List.length_pos_iff.2 hx; omega⟩
  have h' := h
  obtain ⟨_, ⟨h1, h2⟩ | ⟨g, cap, cur, rfl, hg, r1, r2, r⟩⟩ := h
  · omega
  · have O := own_owned h' (fun i => .int .u32 (xs.getD i 0)) (fun i hi => by simp [List.getD, hi])
    rw [hN] at O
    by_cases hc : cap = 1
    · have hN0 : N = 0 := by omega
      subst hc
      subst hN0
      exact Or.inl ⟨g, _, by rw [hN], hN, rfl, O.cell 0 (by omega)⟩
    · exact Or.inr ⟨N, g, cap, _, by rw [hN], by omega, hc, hN, rfl, O.cell 0 (by omega), O.cell⟩

end Go.Proofs.YtlcfpcapefeajaaDoor.Pl
