/- What the program's root and the model's root of a number round to; the model's RootWord by the kind of the word. -/
import Derived.Test.YtamoakodlmjbiaaDoorRootS
import Derived.Test.YtamoakodlmjbiaaDoorSumC
namespace Go.Proofs.YtamoakodlmjbiaaDoor
open Go.ChangeShapes Go.WideShapes Go.ChangeAt Go.RowKit
set_option linter.unusedVariables false
theorem root_join (Z R M r c P : Nat) (hc : 0 < c) (hM : M = Z * (c * c)) (hR : IsRoot Z R) (hr : IsRoot M r) (hP : P = 2 * r + (if r * r = M then 0 else 1)) : P / (2 * c) = R ∧ (P % (2 * c) = 0 ↔ R * R = Z) := by
  have e1 : (R * c) * (R * c) = (R * R) * (c * c) := Nat.mul_mul_mul_comm R c R c
  have lo : R * c ≤ r := by
    rcases Nat.lt_or_ge r (R * c) with h | h
    · exfalso
      have h1 := sq_le (r + 1) (R * c) h
      rw [e1] at h1
      have h2 : (R * R) * (c * c) ≤ Z * (c * c) := Nat.mul_le_mul_right _ hR.1
      have := hr.2
      omega
    · exact h
  have hi : r < (R + 1) * c := by
    rcases Nat.lt_or_ge r ((R + 1) * c) with h | h
    · exact h
    · exfalso
      have h1 := sq_le ((R + 1) * c) r h
      rw [Nat.mul_mul_mul_comm (R + 1) c (R + 1) c] at h1
      have h2 : Z * (c * c) < ((R + 1) * (R + 1)) * (c * c) := Nat.mul_lt_mul_of_pos_right hR.2 (Nat.mul_pos hc hc)
      have := hr.1
      omega
  rw [Nat.add_mul, Nat.one_mul] at hi
  obtain ⟨t, ht⟩ : ∃ t, R * c = t := ⟨_, rfl⟩
  rw [ht] at lo hi
  have eP : P = (P - 2 * t) + R * (2 * c) := by
    have : R * (2 * c) = 2 * t := by rw [← ht]; simp only [Nat.mul_left_comm]
    rw [this, hP]; split <;> omega
  have small : P - 2 * t < 2 * c := by rw [hP]; split <;> omega
  refine ⟨?_, ?_⟩
  · rw [eP, Nat.add_mul_div_right _ _ (by omega), Nat.div_eq_of_lt small, Nat.zero_add]
  · rw [eP, Nat.add_mul_mod_self_right, Nat.mod_eq_of_lt small]
    constructor
    · intro h0
      by_cases hs : r * r = M
      · rw [if_pos hs] at hP
        have hrt : r = t := by omega
        have : (R * R) * (c * c) = Z * (c * c) := by rw [← e1, ht, ← hrt, hs, hM]
        exact Nat.eq_of_mul_eq_mul_right (Nat.mul_pos hc hc) this
      · rw [if_neg hs] at hP; omega
    · intro hz
      have hrt : r = t := by
        refine hr.unique ⟨?_, ?_⟩
        · rw [← ht, e1, hz, hM]; exact Nat.le_refl _
        · have := sq_lt t (t + 1) (by omega)
          have e : t * t = M := by rw [← ht, e1, hz, hM]
          omega
      have hs : r * r = M := by rw [hrt, ← ht, e1, hz, hM]
      rw [if_pos hs] at hP
      omega
/-- The root of S times a power: the program rounds its root as the model tells its own. -/
theorem root_both (S Z R k M r P : Nat) (E p mode F : Int) (t : Nat) (m0 : 0 ≤ mode) (m4 : mode ≤ 4) (S1 : S < 16777216) (p0 : -149 ≤ p) (p1 : p ≤ 105) (hR : IsRoot Z R) (hZ : Z = S * 2 ^ k) (hE : 2 * E = p - (k : Int)) (z0 : 1152921504606846976 ≤ Z) (z1 : Z < 4611686018427387904)
    (t2 : t ≤ 1) (hM : M = S * 2 ^ t * 2 ^ 80) (hr : IsRoot M r) (hP : P = 2 * r + (if r * r = M then 0 else 1)) (hF : 2 * F = p - (t : Int) - 82) :
    ∃ Rr : Int, 0 ≤ Rr ∧ Rr < 4294967296 ∧
      (∀ v : World, Forms v → Calls Tryd.prog 52 #[.agg #[.bool false, .int .u64 (R : Int), .int .i64 E, .bool (decide (R * R ≠ Z))], .int .i64 0, .int .i64 mode] v fun e w' => e = .returned (.int .u32 Rr) ∧ Below v.heap.size v w') ∧
      (∀ (v : World) (K L : Nat) (VP VQ : Int) (gP gQ : Bool) (pP pQ : Option Addr) (lP cP lQ cQ : Nat), Num v K (.agg #[.int .i64 VP, .bool gP, .slice pP lP cP]) (P : Int) → Num v L (.agg #[.int .i64 VQ, .bool gQ, .slice pQ lQ cQ]) 1 → 2 ≤ K → K ≤ 9000 →
        Calls Tryd.prog 40 #[.agg #[.int .i64 VP, .bool gP, .slice pP lP cP, .int .i64 VQ, .bool gQ, .slice pQ lQ cQ, .int .i64 F], .agg #[.int .i64 24, .int .i64 (-149), .int .i64 104], .int .i64 mode] v fun e w' => e = .returned (.int .i64 Rr) ∧ Below v.heap.size v w') := by
  have R30 : 1073741824 ≤ R := by
    rcases Nat.lt_or_ge R 1073741824 with h | h
    · have := sq_le (R + 1) 1073741824 (by omega); have := hR.2; omega
    · exact h
  have R31 : R < 2147483648 := by
    rcases Nat.lt_or_ge R 2147483648 with h | h
    · exact h
    · have := sq_le 2147483648 R h; have := hR.1; omega
  have k61 : k ≤ 62 := by
    rcases Nat.lt_or_ge 62 k with h | h
    · exfalso
      have h1 : 2 ^ 63 ≤ 2 ^ k := Nat.pow_le_pow_right (by decide) h
      have h2 : 1 * 2 ^ k ≤ S * 2 ^ k := Nat.mul_le_mul_right _ (by
        rcases Nat.eq_zero_or_pos S with q | q
        · rw [q, Nat.zero_mul] at hZ; omega
        · exact q)
      omega
    · exact h
  obtain ⟨i, hi⟩ : ∃ i : Nat, 2 * i + k = 80 + t := ⟨((80 + t - k) / 2 : Nat), by omega⟩
  have hMZ : M = Z * (2 ^ i * 2 ^ i) := by
    rw [hM, hZ, Nat.mul_assoc, Nat.mul_assoc, ← Nat.pow_add, ← Nat.pow_add, ← Nat.pow_add]
    congr 2
    omega
  obtain ⟨j1, j2⟩ := root_join Z R M r (2 ^ i) P (p2 _) hMZ hR hr hP
  have ePow : 2 * 2 ^ i = 2 ^ (E - F).toNat := by
    rw [show (E - F).toNat = i + 1 by omega, Nat.pow_succ, Nat.mul_comm]
  rw [ePow] at j1 j2
  have P0 : 0 < P := by
    rcases Nat.eq_zero_or_pos P with h | h
    · rw [h] at j1; simp at j1; omega
    · exact h
  have rl : r < 18446744073709551616 := by
    rcases Nat.lt_or_ge r 18446744073709551616 with h | h
    · exact h
    · exfalso
      have h1 := sq_le 18446744073709551616 r h
      have h2 := hr.1
      have h3 : M < 16777216 * 2 * 2 ^ 80 := by
        rw [hM]
        refine Nat.mul_lt_mul_of_pos_right ?_ (p2 _)
        rcases (by omega : t = 0 ∨ t = 1) with rfl | rfl <;> omega
      omega
  have Pl : P < 36893488147419103232 := by rw [hP]; split <;> omega
  obtain ⟨g1, g2⟩ := quot_g P 1 F E
  have hdiv : P * 2 ^ (F - E).toNat / (1 * 2 ^ (E - F).toNat) = R := by rw [show (F - E).toNat = 0 by omega, Nat.pow_zero, Nat.mul_one, Nat.one_mul]; exact j1
  have hmod : P * 2 ^ (F - E).toNat % (1 * 2 ^ (E - F).toNat) = 0 ↔ R * R = Z := by rw [show (F - E).toNat = 0 by omega, Nat.pow_zero, Nat.mul_one, Nat.one_mul]; exact j2
  have big : P * 2 ^ F.toNat < 1000000000 ^ 60 := by
    exact Nat.lt_of_le_of_lt (Nat.mul_le_mul_right _ (by omega : P ≤ 2 * 18446744073709551615 + 2)) (by
      have hf : F.toNat ≤ 20 := by omega
      have h1 : 2 ^ F.toNat ≤ 2 ^ 20 := Nat.pow_le_pow_right (by decide) hf
      have h2 := Nat.mul_le_mul_left (2 * 18446744073709551615 + 2) h1
      have h3 : (2 * 18446744073709551615 + 2) * 2 ^ 20 < 1000000000 ^ 60 := by decide
      omega)
  exact both_w false R E (decide (R * R ≠ Z)) mode m0 m4 (by omega) (by omega) (by omega) (by omega) (P : Int) 1 F (by omega) (by omega) (by omega) (P * 2 ^ F.toNat) (1 * 2 ^ (-F).toNat) P 1 (by rw [Int.natAbs_natCast]) rfl rfl rfl (by decide) big (big_lt 1 _ (by decide) (by omega)) (decide_eq_false (by omega)) (by rw [g1, hdiv]) (by
    simp only [Ne, g2, hmod]) (fun _ => by omega)
namespace fnExactRootWord
/-- What the model's questions answer of a word, by its kind. -/
structure Tests (a x : Int) (S : Bool) : Prop where
  neg : ∀ v : World, Calls Tryd.prog 67 #[.int .u32 a] v fun e w' => e = .returned (.bool S) ∧ w' = v
  nan : ∀ v : World, Calls Tryd.prog 47 #[.int .u32 a] v fun e w' => e = .returned (.bool (decide (x = 3))) ∧ w' = v
  inf : ∀ v : World, Calls Tryd.prog 48 #[.int .u32 a] v fun e w' => e = .returned (.bool (decide (x = 2))) ∧ w' = v
  nil : ∀ v : World, Calls Tryd.prog 49 #[.int .u32 a] v fun e w' => e = .returned (.bool (decide (x = 0))) ∧ w' = v
theorem tests (a x : Int) (S : Bool) (a0 : 0 ≤ a) (a1 : a < 4294967296) (hx : kindI (a % 2147483648) = x) (hS : decide (2147483648 ≤ a) = S) : Tests a x S := by
  obtain ⟨k3, k2, k0⟩ := kind_tests (a % 2147483648) (by omega)
  refine ⟨fun v => ?_, fun v => ?_, fun v => ?_, fun v => ?_⟩
  · have h := sNeg_any a a0 a1 v; rw [hS] at h; exact h
  · have h := sNaN_any a a0 a1 v; rw [k3, hx] at h; exact h
  · have h := sInf_any a a0 a1 v; rw [k2, hx] at h; exact h
  · have h := sNil_any a a0 a1 v; rw [k0, hx] at h; exact h
theorem s_bad (a mode : Int) (hm : ¬ (0 ≤ mode ∧ mode ≤ 4)) (w : World) : Calls Tryd.prog 31 #[.int .u32 a, .int .i64 mode] w fun e w' => e = .returned (.int .u32 0) ∧ Below w.heap.size w w' := by
  have hg := sGood_any mode w
  rw [decide_eq_false hm] at hg
  go_enter Tryd.func31, Tryd.ntmps31
  go_wp2_with (go_at_call 17; refine hg.mono ?_; rintro e w' ⟨rfl, hw⟩; subst w')
  go_ret
  exact ⟨rfl, Below.refl _ _⟩
theorem s_of (a mode R : Int) (hm : 0 ≤ mode ∧ mode ≤ 4) (w : World) (hB : Calls Tryd.prog 65 #[.int .u32 a, .int .i64 mode] w fun e w' => e = .returned (.int .u32 R) ∧ Below w.heap.size w w') :
    Calls Tryd.prog 31 #[.int .u32 a, .int .i64 mode] w fun e w' => e = .returned (.int .u32 R) ∧ Below w.heap.size w w' := by
  have hg := sGood_any mode w
  rw [decide_eq_true hm] at hg
  go_enter Tryd.func31, Tryd.ntmps31
  go_wp2_with (first | (go_at_call 17; refine hg.mono ?_; rintro e w' ⟨rfl, hw⟩; subst w') | (go_at_call 65; refine hB.mono ?_; rintro e w1 ⟨rfl, hb1⟩))
  go_ret
  exact ⟨rfl, hb1⟩
theorem i_bad (a mode : Int) (hm : ¬ (0 ≤ mode ∧ mode ≤ 4)) (w : World) : Calls Tryd.prog 32 #[.int .u32 a, .int .i64 mode] w fun e w' => e = .returned (.int .u32 0) ∧ Below w.heap.size w w' := by
  have hg := goodMode_any mode w
  rw [decide_eq_false hm] at hg
  go_enter Tryd.func32, Tryd.ntmps32
  go_wp2_with (go_at_call 45; refine hg.mono ?_; rintro e w' ⟨rfl, hw⟩; subst w')
  go_ret
  exact ⟨rfl, Below.refl _ _⟩
section
variable (a mode x : Int) (SA : Bool) (hm : 0 ≤ mode ∧ mode ≤ 4) (a0 : 0 ≤ a) (a1 : a < 4294967296) (hx : kindI (a % 2147483648) = x) (hSA : decide (2147483648 ≤ a) = SA)
include hm a0 a1 hx hSA in
set_option maxHeartbeats 2000000 in
theorem i_easy (w : World) (G : Forms w) (R : Int) (hc : x = 0 ∧ R = a ∨ x = 3 ∧ R = 2143289344 ∨ (x = 1 ∨ x = 2) ∧ SA = true ∧ R = 2143289344 ∨ x = 2 ∧ SA = false ∧ R = a) : Calls Tryd.prog 32 #[.int .u32 a, .int .i64 mode] w fun e w' => e = .returned (.int .u32 R) ∧ Below w.heap.size w w' := by
  have hg := goodMode_any mode w
  rw [decide_eq_true hm] at hg
  have hA := kindOf_w a a0 a1 w G
  rw [hx] at hA
  have hS := signOf_w a a0 a1 w G.c2
  obtain ⟨SK, hSK⟩ : ∃ SK : Int, a / 2147483648 * 2147483648 = SK := ⟨_, rfl⟩
  rw [hSK] at hS
  have hsk : SK = if SA = true then 2147483648 else 0 := by rw [← hSK, ← hSA]; by_cases h : 2147483648 ≤ a <;> simp [h] <;> omega
  clear hSK hx hSA
  rcases hc with ⟨rfl, rfl⟩ | ⟨rfl, rfl⟩ | ⟨hx, rfl, rfl⟩ | ⟨rfl, rfl, rfl⟩
  · go_enter Tryd.func32, Tryd.ntmps32
    go_wp2_with (first | (go_at_call 45; refine hg.mono ?_; rintro e w' ⟨rfl, hw⟩; subst w') | (go_at_call 55; refine hA.mono ?_; rintro e w' ⟨rfl, hw⟩; subst w') | (go_at_call 56; refine hS.mono ?_; rintro e w' ⟨rfl, hw⟩; subst w'))
    go_ret
    exact ⟨rfl, Below.refl _ _⟩
  · go_enter Tryd.func32, Tryd.ntmps32
    go_wp2_with (first | (go_at_call 45; refine hg.mono ?_; rintro e w' ⟨rfl, hw⟩; subst w') | (go_at_call 55; refine hA.mono ?_; rintro e w' ⟨rfl, hw⟩; subst w') | (go_at_call 56; refine hS.mono ?_; rintro e w' ⟨rfl, hw⟩; subst w'))
    go_ret
    exact ⟨rfl, Below.refl _ _⟩
  · rw [if_pos rfl] at hsk
    subst hsk
    rcases hx with rfl | rfl
    all_goals
      go_enter Tryd.func32, Tryd.ntmps32
      go_wp2_with (first | (go_at_call 45; refine hg.mono ?_; rintro e w' ⟨rfl, hw⟩; subst w') | (go_at_call 55; refine hA.mono ?_; rintro e w' ⟨rfl, hw⟩; subst w') | (go_at_call 56; refine hS.mono ?_; rintro e w' ⟨rfl, hw⟩; subst w'))
      go_ret
      exact ⟨rfl, Below.refl _ _⟩
  · rw [if_neg (by decide)] at hsk
    subst hsk
    go_enter Tryd.func32, Tryd.ntmps32
    go_wp2_with (first | (go_at_call 45; refine hg.mono ?_; rintro e w' ⟨rfl, hw⟩; subst w') | (go_at_call 55; refine hA.mono ?_; rintro e w' ⟨rfl, hw⟩; subst w') | (go_at_call 56; refine hS.mono ?_; rintro e w' ⟨rfl, hw⟩; subst w'))
    go_ret
    exact ⟨rfl, Below.refl _ _⟩
include hm a0 a1 hx hSA in
set_option maxHeartbeats 2000000 in
theorem i_num (w : World) (G : Forms w) (R E : Int) (S : Nat) (p : Int) (r : Nat) (m : Bool) (hS0 : exS (a % 2147483648) = S) (hp : exP (a % 2147483648) = p) (hRt : Hid (∀ v : World, Calls Tryd.prog 66 #[.agg #[.bool false, .int .u64 S, .int .i64 p, .bool false]] v fun e w' => e = .returned (.agg #[.bool false, .int .u64 r, .int .i64 E, .bool m]) ∧ Below v.heap.size v w')) (hT : Hid (∀ v : World, Forms v → Calls Tryd.prog 52 #[.agg #[.bool false, .int .u64 (r : Int), .int .i64 E, .bool m], .int .i64 0, .int .i64 mode] v fun e w' => e = .returned (.int .u32 R) ∧ Below v.heap.size v w')) (hc : x = 1 ∧ SA = false) : Calls Tryd.prog 32 #[.int .u32 a, .int .i64 mode] w fun e w' => e = .returned (.int .u32 R) ∧ Below w.heap.size w w' := by
  obtain ⟨rfl, rfl⟩ := hc
  have hg := goodMode_any mode w
  rw [decide_eq_true hm] at hg
  have hA := kindOf_w a a0 a1 w G
  rw [hx] at hA
  have hS := signOf_w a a0 a1 w G.c2
  rw [show a / 2147483648 * 2147483648 = 0 by have : ¬ 2147483648 ≤ a := of_decide_eq_false hSA; omega] at hS
  have hE := exactOf_w a a0 a1 w G
  rw [hSA, hS0, hp] at hE
  clear hx hSA hS0 hp
  go_enter Tryd.func32, Tryd.ntmps32
  go_wp2_with (first | (go_at_call 45; refine hg.mono ?_; rintro e w' ⟨rfl, hw⟩; subst w') | (go_at_call 55; refine hA.mono ?_; rintro e w' ⟨rfl, hw⟩; subst w') | (go_at_call 56; refine hS.mono ?_; rintro e w' ⟨rfl, hw⟩; subst w') | (go_at_call 64; refine hE.mono ?_; rintro e w1 ⟨rfl, hb1⟩; (have G1 := G.next hb1)) | (go_at_call 66; refine ((Hid.out hRt) w1).mono ?_; rintro e w2 ⟨rfl, hb2⟩; (have G2 := G1.next hb2)) | (go_at_call 52; refine ((Hid.out hT) w2 G2).mono ?_; rintro e w3 ⟨rfl, hb3⟩))
  go_ret
  exact ⟨rfl, (hb1.trans (hb2.mono hb1.size)).trans (hb3.mono (Nat.le_trans hb1.size hb2.size))⟩
end
section
variable (a mode x : Int) (SA : Bool) (TA : Tests a x SA)
include TA in
set_option maxHeartbeats 2000000 in
theorem s_easy (w : World) (R : Int) (hc : x = 0 ∧ R = a ∨ x = 3 ∧ R = 2143289344 ∨ (x = 1 ∨ x = 2) ∧ SA = true ∧ R = 2143289344 ∨ x = 2 ∧ SA = false ∧ R = a) : Calls Tryd.prog 65 #[.int .u32 a, .int .i64 mode] w fun e w' => e = .returned (.int .u32 R) ∧ Below w.heap.size w w' := by
  have nA : Hid (∀ v : World, Calls Tryd.prog 67 #[.int .u32 a] v fun e w' => e = .returned (.bool SA) ∧ w' = v) := TA.neg
  have qA : Hid (∀ v : World, Calls Tryd.prog 47 #[.int .u32 a] v fun e w' => e = .returned (.bool (decide (x = 3))) ∧ w' = v) := TA.nan
  have iA : Hid (∀ v : World, Calls Tryd.prog 48 #[.int .u32 a] v fun e w' => e = .returned (.bool (decide (x = 2))) ∧ w' = v) := TA.inf
  have zA : Hid (∀ v : World, Calls Tryd.prog 49 #[.int .u32 a] v fun e w' => e = .returned (.bool (decide (x = 0))) ∧ w' = v) := TA.nil
  clear TA
  have hc' : (x = 0 ∧ SA = true ∧ R = a ∨ x = 0 ∧ SA = false ∧ R = a) ∨ x = 3 ∧ R = 2143289344 ∨ (x = 1 ∧ SA = true ∧ R = 2143289344 ∨ x = 2 ∧ SA = true ∧ R = 2143289344) ∨ x = 2 ∧ SA = false ∧ R = a := by
    rcases hc with ⟨h1, h2⟩ | h | ⟨h1 | h1, h2, h3⟩ | h
    · cases SA
      · exact Or.inl (Or.inr ⟨h1, rfl, h2⟩)
      · exact Or.inl (Or.inl ⟨h1, rfl, h2⟩)
    · exact Or.inr (Or.inl h)
    · exact Or.inr (Or.inr (Or.inl (Or.inl ⟨h1, h2, h3⟩)))
    · exact Or.inr (Or.inr (Or.inl (Or.inr ⟨h1, h2, h3⟩)))
    · exact Or.inr (Or.inr (Or.inr h))
  clear hc
  rcases hc' with (⟨rfl, rfl, rfl⟩ | ⟨rfl, rfl, rfl⟩) | ⟨rfl, rfl⟩ | (⟨rfl, rfl, rfl⟩ | ⟨rfl, rfl, rfl⟩) | ⟨rfl, rfl, rfl⟩
  all_goals
    simp only [Int.reduceEq, decide_true, decide_false] at qA iA zA
    go_enter Tryd.func65, Tryd.ntmps65
    go_wp2_with (first | (go_at_call 67; refine ((Hid.out nA) _).mono ?_; rintro e w' ⟨rfl, hw⟩; subst w') | (go_at_call 47; refine ((Hid.out qA) _).mono ?_; rintro e w' ⟨rfl, hw⟩; subst w') | (go_at_call 48; refine ((Hid.out iA) _).mono ?_; rintro e w' ⟨rfl, hw⟩; subst w') | (go_at_call 49; refine ((Hid.out zA) _).mono ?_; rintro e w' ⟨rfl, hw⟩; subst w'))
    go_ret
    exact ⟨rfl, Below.refl _ _⟩
end
end fnExactRootWord
end Go.Proofs.YtamoakodlmjbiaaDoor
