/- What the program's root and the model's root of a number round to; the model's RootWord by the kind of the word. The model's RootWord where a number is told. Both sides' RootWord answer alike (chapter 1's and part 7's text at this seat). CallWords' calls by name: the model's l6Call and the program's callOfWholes, callOfFloats answer alike; conditions: words of 32 bits, the table of float forms. -/
import Derived.Test.YtoloenkcfpfgcaaDoorRootS
import Derived.Test.YtoloenkcfpfgcaaDoorSumC
import Derived.WalkSmall
import Derived.Test.YtoloenkcfpfgcaaDoorCwA
import Derived.Deep.QuietTactic
import Derived.BigQuiet
import Derived.Deep.RegionHeld3
namespace Go.Proofs.YtoloenkcfpfgcaaDoor
open Go.ChangeShapes Go.WideShapes Go.ChangeAt Go.RowKit
set_option linter.unusedVariables false
theorem root_join (Z R M r c P : Nat) (hc : 0 < c) (hM : M = Z * (c * c)) (hR : IsRoot Z R) (hr : IsRoot M r) (hP : P = 2 * r + (if r * r = M then 0 else 1)) : P / (2 * c) = R ∧ (P % (2 * c) = 0 ↔ R * R = Z) := by
  have e1 : (R * c) * (R * c) = (R * R) * (c * c) := Nat.mul_mul_mul_comm R c R c
  have lo : R * c ≤ r := by
    rcases Nat.lt_or_ge r (R * c) with h | h
    · exfalso
      have h1 := sq_le (r + 1) (R * c) h
      rw [e1] at h1
      have h2 : (R * R) * (c * c) ≤ Z * (c * c) := Nat.mul_le_mul_right _ hR.1
      have := hr.2
      omega
    · exact h
  have hi : r < (R + 1) * c := by
    rcases Nat.lt_or_ge r ((R + 1) * c) with h | h
    · exact h
    · exfalso
      have h1 := sq_le ((R + 1) * c) r h
      rw [Nat.mul_mul_mul_comm (R + 1) c (R + 1) c] at h1
      have h2 : Z * (c * c) < ((R + 1) * (R + 1)) * (c * c) := Nat.mul_lt_mul_of_pos_right hR.2 (Nat.mul_pos hc hc)
      have := hr.1
      omega
  rw [Nat.add_mul, Nat.one_mul] at hi
  obtain ⟨t, ht⟩ : ∃ t, R * c = t := ⟨_, rfl⟩
  rw [ht] at lo hi
  have eP : P = (P - 2 * t) + R * (2 * c) := by
    have : R * (2 * c) = 2 * t := by rw [← ht]; simp only [Nat.mul_left_comm]
    rw [this, hP]; split <;> omega
  have small : P - 2 * t < 2 * c := by rw [hP]; split <;> omega
  refine ⟨?_, ?_⟩
  · rw [eP, Nat.add_mul_div_right _ _ (by omega), Nat.div_eq_of_lt small, Nat.zero_add]
  · rw [eP, Nat.add_mul_mod_self_right, Nat.mod_eq_of_lt small]
    constructor
    · intro h0
      by_cases hs : r * r = M
      · rw [if_pos hs] at hP
        have hrt : r = t := by omega
        have : (R * R) * (c * c) = Z * (c * c) := by rw [← e1, ht, ← hrt, hs, hM]
        exact Nat.eq_of_mul_eq_mul_right (Nat.mul_pos hc hc) this
      · rw [if_neg hs] at hP; omega
    · intro hz
      have hrt : r = t := by
        refine hr.unique ⟨?_, ?_⟩
        · rw [← ht, e1, hz, hM]; exact Nat.le_refl _
        · have := sq_lt t (t + 1) (by omega)
          have e : t * t = M := by rw [← ht, e1, hz, hM]
          omega
      have hs : r * r = M := by rw [hrt, ← ht, e1, hz, hM]
      rw [if_pos hs] at hP
      omega
/-- The root of S times a power: the program rounds its root as the model tells its own. -/
theorem root_both (S Z R k M r P : Nat) (E p mode F : Int) (t : Nat) (m0 : 0 ≤ mode) (m4 : mode ≤ 4) (S1 : S < 16777216) (p0 : -149 ≤ p) (p1 : p ≤ 105) (hR : IsRoot Z R) (hZ : Z = S * 2 ^ k) (hE : 2 * E = p - (k : Int)) (z0 : 1152921504606846976 ≤ Z) (z1 : Z < 4611686018427387904)
    (t2 : t ≤ 1) (hM : M = S * 2 ^ t * 2 ^ 80) (hr : IsRoot M r) (hP : P = 2 * r + (if r * r = M then 0 else 1)) (hF : 2 * F = p - (t : Int) - 82) :
    ∃ Rr : Int, 0 ≤ Rr ∧ Rr < 4294967296 ∧
      (∀ v : World, Forms v → Calls Tryd.prog 55 #[.agg #[.bool false, .int .u64 (R : Int), .int .i64 E, .bool (decide (R * R ≠ Z))], .int .i64 0, .int .i64 mode] v fun e w' => e = .returned (.int .u32 Rr) ∧ Below v.heap.size v w') ∧
      (∀ (v : World) (K L : Nat) (VP VQ : Int) (gP gQ : Bool) (pP pQ : Option Addr) (lP cP lQ cQ : Nat), Num v K (.agg #[.int .i64 VP, .bool gP, .slice pP lP cP]) (P : Int) → Num v L (.agg #[.int .i64 VQ, .bool gQ, .slice pQ lQ cQ]) 1 → 2 ≤ K → K ≤ 9000 →
        Calls Tryd.prog 35 #[.agg #[.int .i64 VP, .bool gP, .slice pP lP cP, .int .i64 VQ, .bool gQ, .slice pQ lQ cQ, .int .i64 F], .agg #[.int .i64 24, .int .i64 (-149), .int .i64 104], .int .i64 mode] v fun e w' => e = .returned (.int .i64 Rr) ∧ Below v.heap.size v w') := by
  have R30 : 1073741824 ≤ R := by
    rcases Nat.lt_or_ge R 1073741824 with h | h
    · have := sq_le (R + 1) 1073741824 (by omega); have := hR.2; omega
    · exact h
  have R31 : R < 2147483648 := by
    rcases Nat.lt_or_ge R 2147483648 with h | h
    · exact h
    · have := sq_le 2147483648 R h; have := hR.1; omega
  have k61 : k ≤ 62 := by
    rcases Nat.lt_or_ge 62 k with h | h
    · exfalso
      have h1 : 2 ^ 63 ≤ 2 ^ k := Nat.pow_le_pow_right (by decide) h
      have h2 : 1 * 2 ^ k ≤ S * 2 ^ k := Nat.mul_le_mul_right _ (by
        rcases Nat.eq_zero_or_pos S with q | q
        · rw [q, Nat.zero_mul] at hZ; omega
        · exact q)
      omega
    · exact h
  obtain ⟨i, hi⟩ : ∃ i : Nat, 2 * i + k = 80 + t := ⟨((80 + t - k) / 2 : Nat), by omega⟩
  have hMZ : M = Z * (2 ^ i * 2 ^ i) := by
    rw [hM, hZ, Nat.mul_assoc, Nat.mul_assoc, ← Nat.pow_add, ← Nat.pow_add, ← Nat.pow_add]
    congr 2
    omega
  obtain ⟨j1, j2⟩ := root_join Z R M r (2 ^ i) P (p2 _) hMZ hR hr hP
  have ePow : 2 * 2 ^ i = 2 ^ (E - F).toNat := by
    rw [show (E - F).toNat = i + 1 by omega, Nat.pow_succ, Nat.mul_comm]
  rw [ePow] at j1 j2
  have P0 : 0 < P := by
    rcases Nat.eq_zero_or_pos P with h | h
    · rw [h] at j1; simp at j1; omega
    · exact h
  have rl : r < 18446744073709551616 := by
    rcases Nat.lt_or_ge r 18446744073709551616 with h | h
    · exact h
    · exfalso
      have h1 := sq_le 18446744073709551616 r h
      have h2 := hr.1
      have h3 : M < 16777216 * 2 * 2 ^ 80 := by
        rw [hM]
        refine Nat.mul_lt_mul_of_pos_right ?_ (p2 _)
        rcases (by omega : t = 0 ∨ t = 1) with rfl | rfl <;> omega
      omega
  have Pl : P < 36893488147419103232 := by rw [hP]; split <;> omega
  obtain ⟨g1, g2⟩ := quot_g P 1 F E
  have hdiv : P * 2 ^ (F - E).toNat / (1 * 2 ^ (E - F).toNat) = R := by rw [show (F - E).toNat = 0 by omega, Nat.pow_zero, Nat.mul_one, Nat.one_mul]; exact j1
  have hmod : P * 2 ^ (F - E).toNat % (1 * 2 ^ (E - F).toNat) = 0 ↔ R * R = Z := by rw [show (F - E).toNat = 0 by omega, Nat.pow_zero, Nat.mul_one, Nat.one_mul]; exact j2
  have big : P * 2 ^ F.toNat < 1000000000 ^ 60 := by
    exact Nat.lt_of_le_of_lt (Nat.mul_le_mul_right _ (by omega : P ≤ 2 * 18446744073709551615 + 2)) (by
      have hf : F.toNat ≤ 20 := by omega
      have h1 : 2 ^ F.toNat ≤ 2 ^ 20 := Nat.pow_le_pow_right (by decide) hf
      have h2 := Nat.mul_le_mul_left (2 * 18446744073709551615 + 2) h1
      have h3 : (2 * 18446744073709551615 + 2) * 2 ^ 20 < 1000000000 ^ 60 := by decide
      omega)
  exact both_w false R E (decide (R * R ≠ Z)) mode m0 m4 (by omega) (by omega) (by omega) (by omega) (P : Int) 1 F (by omega) (by omega) (by omega) (P * 2 ^ F.toNat) (1 * 2 ^ (-F).toNat) P 1 (by rw [Int.natAbs_natCast]) rfl rfl rfl (by decide) big (big_lt 1 _ (by decide) (by omega)) (decide_eq_false (by omega)) (by rw [g1, hdiv]) (by
    simp only [Ne, g2, hmod]) (fun _ => by omega)
namespace fnExactRootWord
/-- What the model's questions answer of a word, by its kind. -/
structure Tests (a x : Int) (S : Bool) : Prop where
  neg : ∀ v : World, Calls Tryd.prog 26 #[.int .u32 a] v fun e w' => e = .returned (.bool S) ∧ w' = v
  nan : ∀ v : World, Calls Tryd.prog 13 #[.int .u32 a] v fun e w' => e = .returned (.bool (decide (x = 3))) ∧ w' = v
  inf : ∀ v : World, Calls Tryd.prog 28 #[.int .u32 a] v fun e w' => e = .returned (.bool (decide (x = 2))) ∧ w' = v
  nil : ∀ v : World, Calls Tryd.prog 27 #[.int .u32 a] v fun e w' => e = .returned (.bool (decide (x = 0))) ∧ w' = v
theorem tests (a x : Int) (S : Bool) (a0 : 0 ≤ a) (a1 : a < 4294967296) (hx : kindI (a % 2147483648) = x) (hS : decide (2147483648 ≤ a) = S) : Tests a x S := by
  obtain ⟨k3, k2, k0⟩ := kind_tests (a % 2147483648) (by omega)
  refine ⟨fun v => ?_, fun v => ?_, fun v => ?_, fun v => ?_⟩
  · have h := sNeg_any a a0 a1 v; rw [hS] at h; exact h
  · have h := sNaN_any a a0 a1 v; rw [k3, hx] at h; exact h
  · have h := sInf_any a a0 a1 v; rw [k2, hx] at h; exact h
  · have h := sNil_any a a0 a1 v; rw [k0, hx] at h; exact h
theorem s_of (a mode R : Int) (hm : 0 ≤ mode ∧ mode ≤ 4) (w : World) (hB : Calls Tryd.prog 16 #[.int .u32 a, .int .i64 mode] w fun e w' => e = .returned (.int .u32 R) ∧ Below w.heap.size w w') :
    Calls Tryd.prog 16 #[.int .u32 a, .int .i64 mode] w fun e w' => e = .returned (.int .u32 R) ∧ Below w.heap.size w w' := hB
theorem i_bad (a mode : Int) (hm : ¬ (0 ≤ mode ∧ mode ≤ 4)) (w : World) : Calls Tryd.prog 23 #[.int .u32 a, .int .i64 mode] w fun e w' => e = .returned (.int .u32 0) ∧ Below w.heap.size w w' := by
  have hg := goodMode_any mode w
  rw [decide_eq_false hm] at hg
  go_enter Tryd.func23, Tryd.ntmps23
  go_wp2_with (go_at_call 48; refine hg.mono ?_; rintro e w' ⟨rfl, hw⟩; subst w')
  go_ret
  exact ⟨rfl, Below.refl _ _⟩
section
variable (a mode x : Int) (SA : Bool) (hm : 0 ≤ mode ∧ mode ≤ 4) (a0 : 0 ≤ a) (a1 : a < 4294967296) (hx : kindI (a % 2147483648) = x) (hSA : decide (2147483648 ≤ a) = SA)
include hm a0 a1 hx hSA in
set_option maxHeartbeats 2000000 in
theorem i_easy (w : World) (G : Forms w) (R : Int) (hc : x = 0 ∧ R = a ∨ x = 3 ∧ R = 2143289344 ∨ (x = 1 ∨ x = 2) ∧ SA = true ∧ R = 2143289344 ∨ x = 2 ∧ SA = false ∧ R = a) : Calls Tryd.prog 23 #[.int .u32 a, .int .i64 mode] w fun e w' => e = .returned (.int .u32 R) ∧ Below w.heap.size w w' := by
  have hg := goodMode_any mode w
  rw [decide_eq_true hm] at hg
  have hA := kindOf_w a a0 a1 w G
  rw [hx] at hA
  have hS := signOf_w a a0 a1 w G.c2
  obtain ⟨SK, hSK⟩ : ∃ SK : Int, a / 2147483648 * 2147483648 = SK := ⟨_, rfl⟩
  rw [hSK] at hS
  have hsk : SK = if SA = true then 2147483648 else 0 := by rw [← hSK, ← hSA]; by_cases h : 2147483648 ≤ a <;> simp [h] <;> omega
  clear hSK hx hSA
  rcases hc with ⟨rfl, rfl⟩ | ⟨rfl, rfl⟩ | ⟨hx, rfl, rfl⟩ | ⟨rfl, rfl, rfl⟩
  · go_enter Tryd.func23, Tryd.ntmps23
    go_wp2_with (first | (go_at_call 48; refine hg.mono ?_; rintro e w' ⟨rfl, hw⟩; subst w') | (go_at_call 46; refine hA.mono ?_; rintro e w' ⟨rfl, hw⟩; subst w') | (go_at_call 50; refine hS.mono ?_; rintro e w' ⟨rfl, hw⟩; subst w'))
    go_ret
    exact ⟨rfl, Below.refl _ _⟩
  · go_enter Tryd.func23, Tryd.ntmps23
    go_wp2_with (first | (go_at_call 48; refine hg.mono ?_; rintro e w' ⟨rfl, hw⟩; subst w') | (go_at_call 46; refine hA.mono ?_; rintro e w' ⟨rfl, hw⟩; subst w') | (go_at_call 50; refine hS.mono ?_; rintro e w' ⟨rfl, hw⟩; subst w'))
    go_ret
    exact ⟨rfl, Below.refl _ _⟩
  · rw [if_pos rfl] at hsk
    subst hsk
    rcases hx with rfl | rfl
    all_goals
      go_enter Tryd.func23, Tryd.ntmps23
      go_wp2_with (first | (go_at_call 48; refine hg.mono ?_; rintro e w' ⟨rfl, hw⟩; subst w') | (go_at_call 46; refine hA.mono ?_; rintro e w' ⟨rfl, hw⟩; subst w') | (go_at_call 50; refine hS.mono ?_; rintro e w' ⟨rfl, hw⟩; subst w'))
      go_ret
      exact ⟨rfl, Below.refl _ _⟩
  · rw [if_neg (by decide)] at hsk
    subst hsk
    go_enter Tryd.func23, Tryd.ntmps23
    go_wp2_with (first | (go_at_call 48; refine hg.mono ?_; rintro e w' ⟨rfl, hw⟩; subst w') | (go_at_call 46; refine hA.mono ?_; rintro e w' ⟨rfl, hw⟩; subst w') | (go_at_call 50; refine hS.mono ?_; rintro e w' ⟨rfl, hw⟩; subst w'))
    go_ret
    exact ⟨rfl, Below.refl _ _⟩
include hm a0 a1 hx hSA in
set_option maxHeartbeats 2000000 in
theorem i_num (w : World) (G : Forms w) (R E : Int) (S : Nat) (p : Int) (r : Nat) (m : Bool) (hS0 : exS (a % 2147483648) = S) (hp : exP (a % 2147483648) = p) (hRt : Hid (∀ v : World, Calls Tryd.prog 56 #[.agg #[.bool false, .int .u64 S, .int .i64 p, .bool false]] v fun e w' => e = .returned (.agg #[.bool false, .int .u64 r, .int .i64 E, .bool m]) ∧ Below v.heap.size v w')) (hT : Hid (∀ v : World, Forms v → Calls Tryd.prog 55 #[.agg #[.bool false, .int .u64 (r : Int), .int .i64 E, .bool m], .int .i64 0, .int .i64 mode] v fun e w' => e = .returned (.int .u32 R) ∧ Below v.heap.size v w')) (hc : x = 1 ∧ SA = false) : Calls Tryd.prog 23 #[.int .u32 a, .int .i64 mode] w fun e w' => e = .returned (.int .u32 R) ∧ Below w.heap.size w w' := by
  obtain ⟨rfl, rfl⟩ := hc
  have hg := goodMode_any mode w
  rw [decide_eq_true hm] at hg
  have hA := kindOf_w a a0 a1 w G
  rw [hx] at hA
  have hS := signOf_w a a0 a1 w G.c2
  rw [show a / 2147483648 * 2147483648 = 0 by have : ¬ 2147483648 ≤ a := of_decide_eq_false hSA; omega] at hS
  have hE := exactOf_w a a0 a1 w G
  rw [hSA, hS0, hp] at hE
  clear hx hSA hS0 hp
  go_enter Tryd.func23, Tryd.ntmps23
  go_wp2_with (first | (go_at_call 48; refine hg.mono ?_; rintro e w' ⟨rfl, hw⟩; subst w') | (go_at_call 46; refine hA.mono ?_; rintro e w' ⟨rfl, hw⟩; subst w') | (go_at_call 50; refine hS.mono ?_; rintro e w' ⟨rfl, hw⟩; subst w') | (go_at_call 53; refine hE.mono ?_; rintro e w1 ⟨rfl, hb1⟩; (have G1 := G.next hb1)) | (go_at_call 56; refine ((Hid.out hRt) w1).mono ?_; rintro e w2 ⟨rfl, hb2⟩; (have G2 := G1.next hb2)) | (go_at_call 55; refine ((Hid.out hT) w2 G2).mono ?_; rintro e w3 ⟨rfl, hb3⟩))
  go_ret
  exact ⟨rfl, (hb1.trans (hb2.mono hb1.size)).trans (hb3.mono (Nat.le_trans hb1.size hb2.size))⟩
end
section
variable (a mode x : Int) (SA : Bool) (TA : Tests a x SA)
include TA in
set_option maxHeartbeats 2000000 in
theorem s_easy (w : World) (R : Int) (hc : x = 0 ∧ R = a ∨ x = 3 ∧ R = 2143289344 ∨ (x = 1 ∨ x = 2) ∧ SA = true ∧ R = 2143289344 ∨ x = 2 ∧ SA = false ∧ R = a) : Calls Tryd.prog 16 #[.int .u32 a, .int .i64 mode] w fun e w' => e = .returned (.int .u32 R) ∧ Below w.heap.size w w' := by
  have nA : Hid (∀ v : World, Calls Tryd.prog 26 #[.int .u32 a] v fun e w' => e = .returned (.bool SA) ∧ w' = v) := TA.neg
  have qA : Hid (∀ v : World, Calls Tryd.prog 13 #[.int .u32 a] v fun e w' => e = .returned (.bool (decide (x = 3))) ∧ w' = v) := TA.nan
  have iA : Hid (∀ v : World, Calls Tryd.prog 28 #[.int .u32 a] v fun e w' => e = .returned (.bool (decide (x = 2))) ∧ w' = v) := TA.inf
  have zA : Hid (∀ v : World, Calls Tryd.prog 27 #[.int .u32 a] v fun e w' => e = .returned (.bool (decide (x = 0))) ∧ w' = v) := TA.nil
  clear TA
  have hc' : (x = 0 ∧ SA = true ∧ R = a ∨ x = 0 ∧ SA = false ∧ R = a) ∨ x = 3 ∧ R = 2143289344 ∨ (x = 1 ∧ SA = true ∧ R = 2143289344 ∨ x = 2 ∧ SA = true ∧ R = 2143289344) ∨ x = 2 ∧ SA = false ∧ R = a := by
    rcases hc with ⟨h1, h2⟩ | h | ⟨h1 | h1, h2, h3⟩ | h
    · cases SA
      · exact Or.inl (Or.inr ⟨h1, rfl, h2⟩)
      · exact Or.inl (Or.inl ⟨h1, rfl, h2⟩)
    · exact Or.inr (Or.inl h)
    · exact Or.inr (Or.inr (Or.inl (Or.inl ⟨h1, h2, h3⟩)))
    · exact Or.inr (Or.inr (Or.inl (Or.inr ⟨h1, h2, h3⟩)))
    · exact Or.inr (Or.inr (Or.inr h))
  clear hc
  rcases hc' with (⟨rfl, rfl, rfl⟩ | ⟨rfl, rfl, rfl⟩) | ⟨rfl, rfl⟩ | (⟨rfl, rfl, rfl⟩ | ⟨rfl, rfl, rfl⟩) | ⟨rfl, rfl, rfl⟩
  all_goals
    simp only [Int.reduceEq, decide_true, decide_false] at qA iA zA
    go_enter Tryd.func16, Tryd.ntmps16
    go_wp2_with (first | (go_at_call 26; refine ((Hid.out nA) _).mono ?_; rintro e w' ⟨rfl, hw⟩; subst w') | (go_at_call 13; refine ((Hid.out qA) _).mono ?_; rintro e w' ⟨rfl, hw⟩; subst w') | (go_at_call 28; refine ((Hid.out iA) _).mono ?_; rintro e w' ⟨rfl, hw⟩; subst w') | (go_at_call 27; refine ((Hid.out zA) _).mono ?_; rintro e w' ⟨rfl, hw⟩; subst w'))
    go_ret
    exact ⟨rfl, Below.refl _ _⟩
end
end fnExactRootWord
end Go.Proofs.YtoloenkcfpfgcaaDoor
namespace Go.Proofs.YtoloenkcfpfgcaaDoor.fnExactRootWord
open Go.ChangeShapes Go.WideShapes Go.ChangeAt Go.RowKit
set_option linter.unusedVariables false
section
variable (a mode : Int) (TA : Tests a 1 false)
include TA in
set_option maxRecDepth 100000 in
set_option maxHeartbeats 1500000 in
theorem s_num0q (w : World) (S M r : Nat) (p F R : Int) (S1 : S < 16777216) (S0 : 0 < S) (p0 : -149 ≤ p) (p1 : p ≤ 105) (hp2 : Int.tmod p 2 = 0) (hF : Int.tdiv p 2 - 41 = F) (f0 : -200 ≤ F) (f1 : F ≤ 200) (hM : (S : Int) * 2 ^ 80 = (M : Int)) (M0 : 0 < M) (M1 : M < 100000000000000000000000000000000) (hr : IsRoot M r) (hsq : r * r = M) (pA : Hid (∀ v : World, Calls Tryd.prog 30 #[.int .u32 a] v fun e' w' => e' = .returned (.tuple #[.int .i64 S, .int .i64 p]) ∧ w' = v)) (r0 : 0 ≤ R) (r1 : R < 4294967296)
    (HT : Hid (∀ (v : World) (K L : Nat) (VP VQ : Int) (gP gQ : Bool) (pP pQ : Option Addr) (lP cP lQ cQ : Nat), Num v K (.agg #[.int .i64 VP, .bool gP, .slice pP lP cP]) (((2 * r) : Nat) : Int) → Num v L (.agg #[.int .i64 VQ, .bool gQ, .slice pQ lQ cQ]) 1 → 2 ≤ K → K ≤ 9000 → Calls Tryd.prog 35 #[.agg #[.int .i64 VP, .bool gP, .slice pP lP cP, .int .i64 VQ, .bool gQ, .slice pQ lQ cQ, .int .i64 F], .agg #[.int .i64 24, .int .i64 (-149), .int .i64 104], .int .i64 mode] v fun e w' => e = .returned (.int .i64 R) ∧ Below v.heap.size v w')) :
    Calls Tryd.prog 16 #[.int .u32 a, .int .i64 mode] w fun e w' => e = .returned (.int .u32 R) ∧ Below w.heap.size w w' := by
  have nA : Hid (∀ v : World, Calls Tryd.prog 26 #[.int .u32 a] v fun e w' => e = .returned (.bool false) ∧ w' = v) := TA.neg
  have qA : Hid (∀ v : World, Calls Tryd.prog 13 #[.int .u32 a] v fun e w' => e = .returned (.bool (decide ((1 : Int) = 3))) ∧ w' = v) := TA.nan
  have iA : Hid (∀ v : World, Calls Tryd.prog 28 #[.int .u32 a] v fun e w' => e = .returned (.bool (decide ((1 : Int) = 2))) ∧ w' = v) := TA.inf
  have zA : Hid (∀ v : World, Calls Tryd.prog 27 #[.int .u32 a] v fun e w' => e = .returned (.bool (decide ((1 : Int) = 0))) ∧ w' = v) := TA.nil
  clear TA
  simp only [Int.reduceEq, decide_false] at qA iA zA
  have hwR : IntKind.u32.wrap R = R := by rw [IntKind.wrap_u32]; exact Int.emod_eq_of_lt r0 r1
  obtain ⟨D, hD⟩ : ∃ D, Int.tdiv p 2 = D := ⟨_, rfl⟩
  have hDF : D - 41 = F := by omega
  have D0 : -159 ≤ D := by omega
  have D1 : D ≤ 241 := by omega
  subst hDF
  have ew1 : Hid (IntKind.i64.wrap D = D) := wr64 D (by omega) (by omega)
  have ew2 : Hid (IntKind.i64.wrap (D - 41) = D - 41) := wr64 (D - 41) (by omega) (by omega)
  have m18 : -1000000000000000000 < (S : Int) ∧ (S : Int) < 1000000000000000000 := by omega
  have HM : Hid ((S : Int) * 2 ^ 80 = (M : Int)) := hM
  have HR : Hid (IsRoot M r ∧ r * r = M) := ⟨hr, hsq⟩
  obtain ⟨z, hz⟩ : ∃ z, cmpZ ((r : Int) * (r : Int)) (M : Int) = z := ⟨_, rfl⟩
  have z0 : z = 0 := by
    rw [← hz]
    have e : ((r * r : Nat) : Int) = (r : Int) * (r : Int) := by simp
    unfold cmpZ
    (repeat' split) <;> omega
  subst z0
  have tp : Hid ((M : Int).natAbs < 1000000000 ^ 4) := by show _ < _; rw [Int.natAbs_natCast]; omega
  clear hM hr hsq hF
  go_enter Tryd.func16, Tryd.ntmps16
  go_wp2_with (first | (go_at_call 26; refine ((Hid.out nA) _).mono ?_; rintro e w' ⟨rfl, hw⟩; subst w') | (go_at_call 13; refine ((Hid.out qA) _).mono ?_; rintro e w' ⟨rfl, hw⟩; subst w') | (go_at_call 28; refine ((Hid.out iA) _).mono ?_; rintro e w' ⟨rfl, hw⟩; subst w') | (go_at_call 27; refine ((Hid.out zA) _).mono ?_; rintro e w' ⟨rfl, hw⟩; subst w') | (go_at_call 30; refine ((Hid.out pA) _).mono ?_; rintro e w' ⟨rfl, hw⟩; subst w') | (go_at_call 38; refine (zSmall (S : Int) m18.1 m18.2 w).mono ?_; rintro e w1 ⟨rfl, hb1⟩) | (go_at_call 39; refine (num_power 80 (by decide) w1).mono ?_; rintro e w2 ⟨v2, rfl, N2, hb2⟩; obtain ⟨V2, g2, p2, l2, c2, rfl⟩ := N2.parts) | (go_at_call 37; refine (num_mul_any (w := w2) (num_small w2 3 (S : Int) m18.1 m18.2) N2 (by decide) (by decide) (by decide)).mono ?_; rintro e w3 ⟨v3, rfl, N3a, hb3⟩; obtain ⟨Vn, gn, pn, ln, cn, rfl⟩ := N3a.parts; (have N3 := N3a); rw [HM.out] at N3; (have NM := N3.tight (k := 4) tp.out); (have b3 := (hb1.trans (hb2.mono hb1.size)).trans (hb3.mono (Nat.le_trans hb1.size hb2.size))); (have aN : Below w3.heap.size w3 (w3.alloc (.cells #[.int .i64 Vn, .bool gn, .slice pn ln cn] 50)) := ((Below.refl _ _).alloc (Nat.le_refl _) _)); (have TN : Three (w3.alloc (.cells #[.int .i64 Vn, .bool gn, .slice pn ln cn] 50)) w3.heap.size (.int .i64 Vn) (.bool gn) (.slice pn ln cn) := heap_alloc_new _ _); (have NMn := NM.next aN); (have bN := b3.trans (aN.mono b3.size)); obtain ⟨⟨n0, n1, n2⟩, _⟩ := blk3 TN) | (go_at_call 40; refine (num_root (w := (w3.alloc (.cells #[.int .i64 Vn, .bool gn, .slice pn ln cn] 50))) NMn (by decide) (by decide) M0 M1).mono ?_; rintro e w4 ⟨v4, r', rfl, hr', N4, hb4⟩; obtain ⟨Vr, gr, pr, lr, cr, rfl⟩ := N4.parts; obtain rfl : r = r' := (hr'.unique HR.out.1).symm; (have TN4 := TN.next hb4); (have NM4 := NMn.next hb4); (have b4 := bN.trans (hb4.mono bN.size)); (have aR : Below w4.heap.size w4 (w4.alloc (.cells #[.int .i64 Vr, .bool gr, .slice pr lr cr] 50)) := ((Below.refl _ _).alloc (Nat.le_refl _) _)); (have TR : Three (w4.alloc (.cells #[.int .i64 Vr, .bool gr, .slice pr lr cr] 50)) w4.heap.size (.int .i64 Vr) (.bool gr) (.slice pr lr cr) := heap_alloc_new _ _); (have TNr := TN4.next aR); (have NMr := NM4.next aR); (have NR := N4.next aR); (have bR := b4.trans (aR.mono b4.size)); obtain ⟨⟨r0', r1', r2'⟩, _⟩ := blk3 TR; clear hr') | (go_at_call 41; (with_reducible show Calls Tryd.prog 41 _ (w4.alloc (.cells #[.int .i64 Vr, .bool gr, .slice pr lr cr] 50)) _); refine (num_add (w := (w4.alloc (.cells #[.int .i64 Vr, .bool gr, .slice pr lr cr] 50))) NR NR (by decide) (by decide) (by decide)).mono ?_; rintro e w5 ⟨v5, rfl, N5, hb5⟩; obtain ⟨Vq, gq, pq, lq, cq, rfl⟩ := N5.parts; (have TN5 := TNr.next hb5); (have TR5 := TR.next hb5); (have NM5 := NMr.next hb5); (have NR5 := NR.next hb5); (have b5 := bR.trans (hb5.mono bR.size)); (have aP : Below w5.heap.size w5 (w5.alloc (.cells #[.int .i64 Vq, .bool gq, .slice pq lq cq] 50)) := ((Below.refl _ _).alloc (Nat.le_refl _) _)); (have TP : Three (w5.alloc (.cells #[.int .i64 Vq, .bool gq, .slice pq lq cq] 50)) w5.heap.size (.int .i64 Vq) (.bool gq) (.slice pq lq cq) := heap_alloc_new _ _); (have TNp := TN5.next aP); (have TRp := TR5.next aP); (have NMp := NM5.next aP); (have NRp := NR5.next aP); (have NPp := N5.next aP); (have bP := b5.trans (aP.mono b5.size)); obtain ⟨⟨x0, x1, x2⟩, _⟩ := blk3 TRp; obtain ⟨⟨x3, x4, x5⟩, _⟩ := blk3 TNp))
  obtain ⟨W, hW⟩ : ∃ W, W = (w5.alloc (.cells #[.int .i64 Vq, .bool gq, .slice pq lq cq] 50)) := ⟨_, rfl⟩
  obtain ⟨bn, hbn⟩ : ∃ b, b = w3.heap.size := ⟨_, rfl⟩
  obtain ⟨br, hbr⟩ : ∃ b, b = w4.heap.size := ⟨_, rfl⟩
  obtain ⟨bq, hbq⟩ : ∃ b, b = w5.heap.size := ⟨_, rfl⟩
  rw [← hW] at TNp TRp NMp NRp NPp bP x0 x1 x2 x3 x4 x5 TP ⊢
  rw [← hbn] at TNp x3 x4 x5
  rw [← hbr] at TRp x0 x1 x2
  rw [← hbq] at TP
  rw [← hbn, ← hbr, ← hbq]
  have nrq : br ≠ bq := by rw [hbr, hbq]; have := TR5.lt; omega
  have nnq : bn ≠ bq := by rw [hbn, hbq]; have := TN5.lt; omega
  have kbq : w.heap.size ≤ bq := by rw [hbq]; exact b5.size
  clear TN TR TN4 TNr TN5 TR5 NMn NM4 NMr NM5 NR NR5 N5 N4 N3 N3a NM N2 n0 n1 n2 r0' r1' r2' hW hbn hbr hbq b3 bN b4 bR b5 hb1 hb2 hb3 hb4 hb5 aN aR aP
  go_region_held3 (fun v => v.cell? ⟨br, 0, none⟩ = some (.int .i64 Vr) ∧ v.cell? ⟨br, 1, none⟩ = some (.bool gr) ∧ v.cell? ⟨br, 2, none⟩ = some (.slice pr lr cr) ∧ v.cell? ⟨bn, 0, none⟩ = some (.int .i64 Vn) ∧ v.cell? ⟨bn, 1, none⟩ = some (.bool gn) ∧ v.cell? ⟨bn, 2, none⟩ = some (.slice pn ln cn)) (first | with_reducible exact ⟨x0, x1, x2, x3, x4, x5⟩ | with_reducible exact ⟨s0, s1, s2, s3, s4, s5⟩ | with_reducible exact ⟨t0, t1, t2, t3, t4, t5⟩ | (go_keep; done)) (first | (go_at_call 37; refine (num_mul_any (w := W.drew) NRp.drew NRp.drew (by decide) (by decide) (by decide)).mono ?_; rintro e w6 ⟨v6, rfl, N6, hc6⟩; obtain ⟨V6, g6, p6, l6, c6, rfl⟩ := N6.parts; (have hb6 : Below W.heap.size W w6 := ⟨hc6.os, hc6.tape, hc6.output, hc6.size, hc6.block⟩); (have TR6 := TRp.next hb6); (have TN6 := TNp.next hb6); (have TQ6 := TP.next hb6); (have NM6 := NMp.next hb6); (have NP6 := NPp.next hb6); (have b6 := bP.trans (hb6.mono bP.size)); obtain ⟨⟨s0, s1, s2⟩, _⟩ := blk3 TR6; obtain ⟨⟨s3, s4, s5⟩, _⟩ := blk3 TN6) | (go_at_call 42; refine (num_cmp (w := w6) N6 NM6 (by decide) (by decide) (by have := Int.mul_nonneg (Int.natCast_nonneg r) (Int.natCast_nonneg r); exact this) (by omega)).mono ?_; rw [hz]; rintro e w7 ⟨rfl, hb7⟩; (have TR7 := TR6.next hb7); (have TN7 := TN6.next hb7); (have TQ7 := TQ6.next hb7); (have NP7 := NP6.next hb7); (have b7 := b6.trans (hb7.mono b6.size)); obtain ⟨⟨t0, t1, t2⟩, _⟩ := blk3 TR7; obtain ⟨⟨t3, t4, t5⟩, _⟩ := blk3 TN7))
  clear x0 x1 x2 x3 x4 x5 s0 s1 s2 s3 s4 s5 t0 t1 t2 t3 t4 t5 TP TRp TNp NMp NRp NPp NM6 N6 NP6 TR6 TN6 TQ6 hb6 hb7 hc6 b6 bP TR7 TN7
  obtain ⟨⟨y0, y1, y2⟩, f0', f1', f2'⟩ := blk3 TQ7
  go_wp2
  · have TE : Three w7 bq (.int .i64 Vq) (.bool gq) (.slice pq lq cq) := TQ7
    have NE : Num w7 7 (.agg #[.int .i64 Vq, .bool gq, .slice pq lq cq]) (((2 * r) : Nat) : Int) := by have h := NP7; rw [show (r : Int) + (r : Int) = (((2 * r) : Nat) : Int) by omega] at h; exact h
    have bE := b7
    obtain ⟨⟨u0, u1, u2⟩, _⟩ := blk3 TE
    go_region_held3 (fun v => v.cell? ⟨bq, 0, none⟩ = some (.int .i64 Vq) ∧ v.cell? ⟨bq, 1, none⟩ = some (.bool gq) ∧ v.cell? ⟨bq, 2, none⟩ = some (.slice pq lq cq)) (first | with_reducible exact ⟨u0, u1, u2⟩ | with_reducible exact ⟨m0, m1, m2⟩ | with_reducible exact ⟨k0, k1, k2⟩ | with_reducible exact ⟨j0, j1, j2⟩ | (go_keep; done)) (first | (go_at_call 38; refine (zSmall 1 (by decide) (by decide) _).mono ?_; rintro e w10 ⟨rfl, hc10⟩; (have hb10 : Below w7.heap.size w7 w10 := ⟨hc10.os, hc10.tape, hc10.output, hc10.size, hc10.block⟩); (have T10 := TE.next hb10); (have N10 := NE.next hb10); (have b10 := bE.trans (hb10.mono bE.size)); obtain ⟨⟨m0, m1, m2⟩, _⟩ := blk3 T10) | (go_at_call 36; refine (zWord _).mono ?_; rintro e w11 ⟨rfl, hb11⟩; (have T11 := T10.next hb11); (have N11 := N10.next hb11); (have b11 := b10.trans (hb11.mono b10.size)); obtain ⟨⟨k0, k1, k2⟩, _⟩ := blk3 T11) | (go_at_call 35; (try rw [ew1.out]); (try rw [ew2.out]); (with_reducible show Calls Tryd.prog 35 #[Value.agg #[Value.int IntKind.i64 Vq, Value.bool gq, Value.slice pq lq cq, Value.int IntKind.i64 1, Value.bool false, Value.slice none 0 0, Value.int IntKind.i64 (D - 41)], _, _] w11 _); refine ((Hid.out HT) w11 7 3 Vq 1 gq false pq none lq cq 0 0 N11 (num_small w11 3 1 (by decide) (by decide)) (by decide) (by decide)).mono ?_; rintro e w12 ⟨rfl, hb12⟩; (have T12 := T11.next hb12); (have b12 := b11.trans (hb12.mono b11.size)); obtain ⟨⟨j0, j1, j2⟩, _⟩ := blk3 T12))
    all_goals go_wp2
    all_goals go_ret
    all_goals exact ⟨by first | rfl | (show Ending.returned (.int .u32 (IntKind.u32.wrap R)) = _; rw [hwR]), b12⟩
include TA in
set_option maxRecDepth 100000 in
set_option maxHeartbeats 1500000 in
theorem s_num0n (w : World) (S M r : Nat) (p F R : Int) (S1 : S < 16777216) (S0 : 0 < S) (p0 : -149 ≤ p) (p1 : p ≤ 105) (hp2 : Int.tmod p 2 = 0) (hF : Int.tdiv p 2 - 41 = F) (f0 : -200 ≤ F) (f1 : F ≤ 200) (hM : (S : Int) * 2 ^ 80 = (M : Int)) (M0 : 0 < M) (M1 : M < 100000000000000000000000000000000) (hr : IsRoot M r) (hsq : ¬ r * r = M) (pA : Hid (∀ v : World, Calls Tryd.prog 30 #[.int .u32 a] v fun e' w' => e' = .returned (.tuple #[.int .i64 S, .int .i64 p]) ∧ w' = v)) (r0 : 0 ≤ R) (r1 : R < 4294967296)
    (HT : Hid (∀ (v : World) (K L : Nat) (VP VQ : Int) (gP gQ : Bool) (pP pQ : Option Addr) (lP cP lQ cQ : Nat), Num v K (.agg #[.int .i64 VP, .bool gP, .slice pP lP cP]) (((2 * r + 1) : Nat) : Int) → Num v L (.agg #[.int .i64 VQ, .bool gQ, .slice pQ lQ cQ]) 1 → 2 ≤ K → K ≤ 9000 → Calls Tryd.prog 35 #[.agg #[.int .i64 VP, .bool gP, .slice pP lP cP, .int .i64 VQ, .bool gQ, .slice pQ lQ cQ, .int .i64 F], .agg #[.int .i64 24, .int .i64 (-149), .int .i64 104], .int .i64 mode] v fun e w' => e = .returned (.int .i64 R) ∧ Below v.heap.size v w')) :
    Calls Tryd.prog 16 #[.int .u32 a, .int .i64 mode] w fun e w' => e = .returned (.int .u32 R) ∧ Below w.heap.size w w' := by
  have nA : Hid (∀ v : World, Calls Tryd.prog 26 #[.int .u32 a] v fun e w' => e = .returned (.bool false) ∧ w' = v) := TA.neg
  have qA : Hid (∀ v : World, Calls Tryd.prog 13 #[.int .u32 a] v fun e w' => e = .returned (.bool (decide ((1 : Int) = 3))) ∧ w' = v) := TA.nan
  have iA : Hid (∀ v : World, Calls Tryd.prog 28 #[.int .u32 a] v fun e w' => e = .returned (.bool (decide ((1 : Int) = 2))) ∧ w' = v) := TA.inf
  have zA : Hid (∀ v : World, Calls Tryd.prog 27 #[.int .u32 a] v fun e w' => e = .returned (.bool (decide ((1 : Int) = 0))) ∧ w' = v) := TA.nil
  clear TA
  simp only [Int.reduceEq, decide_false] at qA iA zA
  have hwR : IntKind.u32.wrap R = R := by rw [IntKind.wrap_u32]; exact Int.emod_eq_of_lt r0 r1
  obtain ⟨D, hD⟩ : ∃ D, Int.tdiv p 2 = D := ⟨_, rfl⟩
  have hDF : D - 41 = F := by omega
  have D0 : -159 ≤ D := by omega
  have D1 : D ≤ 241 := by omega
  subst hDF
  have ew1 : Hid (IntKind.i64.wrap D = D) := wr64 D (by omega) (by omega)
  have ew2 : Hid (IntKind.i64.wrap (D - 41) = D - 41) := wr64 (D - 41) (by omega) (by omega)
  have m18 : -1000000000000000000 < (S : Int) ∧ (S : Int) < 1000000000000000000 := by omega
  have HM : Hid ((S : Int) * 2 ^ 80 = (M : Int)) := hM
  have HR : Hid (IsRoot M r ∧ ¬ r * r = M) := ⟨hr, hsq⟩
  obtain ⟨z, hz⟩ : ∃ z, cmpZ ((r : Int) * (r : Int)) (M : Int) = z := ⟨_, rfl⟩
  have z0 : ¬ z = 0 := by
    rw [← hz]
    have e : ((r * r : Nat) : Int) = (r : Int) * (r : Int) := by simp
    unfold cmpZ
    (repeat' split) <;> omega
  have z0' : (z == 0) = false := by simpa using z0
  have tp : Hid ((M : Int).natAbs < 1000000000 ^ 4) := by show _ < _; rw [Int.natAbs_natCast]; omega
  clear hM hr hsq hF
  go_enter Tryd.func16, Tryd.ntmps16
  go_wp2_with (first | (go_at_call 26; refine ((Hid.out nA) _).mono ?_; rintro e w' ⟨rfl, hw⟩; subst w') | (go_at_call 13; refine ((Hid.out qA) _).mono ?_; rintro e w' ⟨rfl, hw⟩; subst w') | (go_at_call 28; refine ((Hid.out iA) _).mono ?_; rintro e w' ⟨rfl, hw⟩; subst w') | (go_at_call 27; refine ((Hid.out zA) _).mono ?_; rintro e w' ⟨rfl, hw⟩; subst w') | (go_at_call 30; refine ((Hid.out pA) _).mono ?_; rintro e w' ⟨rfl, hw⟩; subst w') | (go_at_call 38; refine (zSmall (S : Int) m18.1 m18.2 w).mono ?_; rintro e w1 ⟨rfl, hb1⟩) | (go_at_call 39; refine (num_power 80 (by decide) w1).mono ?_; rintro e w2 ⟨v2, rfl, N2, hb2⟩; obtain ⟨V2, g2, p2, l2, c2, rfl⟩ := N2.parts) | (go_at_call 37; refine (num_mul_any (w := w2) (num_small w2 3 (S : Int) m18.1 m18.2) N2 (by decide) (by decide) (by decide)).mono ?_; rintro e w3 ⟨v3, rfl, N3a, hb3⟩; obtain ⟨Vn, gn, pn, ln, cn, rfl⟩ := N3a.parts; (have N3 := N3a); rw [HM.out] at N3; (have NM := N3.tight (k := 4) tp.out); (have b3 := (hb1.trans (hb2.mono hb1.size)).trans (hb3.mono (Nat.le_trans hb1.size hb2.size))); (have aN : Below w3.heap.size w3 (w3.alloc (.cells #[.int .i64 Vn, .bool gn, .slice pn ln cn] 50)) := ((Below.refl _ _).alloc (Nat.le_refl _) _)); (have TN : Three (w3.alloc (.cells #[.int .i64 Vn, .bool gn, .slice pn ln cn] 50)) w3.heap.size (.int .i64 Vn) (.bool gn) (.slice pn ln cn) := heap_alloc_new _ _); (have NMn := NM.next aN); (have bN := b3.trans (aN.mono b3.size)); obtain ⟨⟨n0, n1, n2⟩, _⟩ := blk3 TN) | (go_at_call 40; refine (num_root (w := (w3.alloc (.cells #[.int .i64 Vn, .bool gn, .slice pn ln cn] 50))) NMn (by decide) (by decide) M0 M1).mono ?_; rintro e w4 ⟨v4, r', rfl, hr', N4, hb4⟩; obtain ⟨Vr, gr, pr, lr, cr, rfl⟩ := N4.parts; obtain rfl : r = r' := (hr'.unique HR.out.1).symm; (have TN4 := TN.next hb4); (have NM4 := NMn.next hb4); (have b4 := bN.trans (hb4.mono bN.size)); (have aR : Below w4.heap.size w4 (w4.alloc (.cells #[.int .i64 Vr, .bool gr, .slice pr lr cr] 50)) := ((Below.refl _ _).alloc (Nat.le_refl _) _)); (have TR : Three (w4.alloc (.cells #[.int .i64 Vr, .bool gr, .slice pr lr cr] 50)) w4.heap.size (.int .i64 Vr) (.bool gr) (.slice pr lr cr) := heap_alloc_new _ _); (have TNr := TN4.next aR); (have NMr := NM4.next aR); (have NR := N4.next aR); (have bR := b4.trans (aR.mono b4.size)); obtain ⟨⟨r0', r1', r2'⟩, _⟩ := blk3 TR; clear hr') | (go_at_call 41; (with_reducible show Calls Tryd.prog 41 _ (w4.alloc (.cells #[.int .i64 Vr, .bool gr, .slice pr lr cr] 50)) _); refine (num_add (w := (w4.alloc (.cells #[.int .i64 Vr, .bool gr, .slice pr lr cr] 50))) NR NR (by decide) (by decide) (by decide)).mono ?_; rintro e w5 ⟨v5, rfl, N5, hb5⟩; obtain ⟨Vq, gq, pq, lq, cq, rfl⟩ := N5.parts; (have TN5 := TNr.next hb5); (have TR5 := TR.next hb5); (have NM5 := NMr.next hb5); (have NR5 := NR.next hb5); (have b5 := bR.trans (hb5.mono bR.size)); (have aP : Below w5.heap.size w5 (w5.alloc (.cells #[.int .i64 Vq, .bool gq, .slice pq lq cq] 50)) := ((Below.refl _ _).alloc (Nat.le_refl _) _)); (have TP : Three (w5.alloc (.cells #[.int .i64 Vq, .bool gq, .slice pq lq cq] 50)) w5.heap.size (.int .i64 Vq) (.bool gq) (.slice pq lq cq) := heap_alloc_new _ _); (have TNp := TN5.next aP); (have TRp := TR5.next aP); (have NMp := NM5.next aP); (have NRp := NR5.next aP); (have NPp := N5.next aP); (have bP := b5.trans (aP.mono b5.size)); obtain ⟨⟨x0, x1, x2⟩, _⟩ := blk3 TRp; obtain ⟨⟨x3, x4, x5⟩, _⟩ := blk3 TNp))
  obtain ⟨W, hW⟩ : ∃ W, W = (w5.alloc (.cells #[.int .i64 Vq, .bool gq, .slice pq lq cq] 50)) := ⟨_, rfl⟩
  obtain ⟨bn, hbn⟩ : ∃ b, b = w3.heap.size := ⟨_, rfl⟩
  obtain ⟨br, hbr⟩ : ∃ b, b = w4.heap.size := ⟨_, rfl⟩
  obtain ⟨bq, hbq⟩ : ∃ b, b = w5.heap.size := ⟨_, rfl⟩
  rw [← hW] at TNp TRp NMp NRp NPp bP x0 x1 x2 x3 x4 x5 TP ⊢
  rw [← hbn] at TNp x3 x4 x5
  rw [← hbr] at TRp x0 x1 x2
  rw [← hbq] at TP
  rw [← hbn, ← hbr, ← hbq]
  have nrq : br ≠ bq := by rw [hbr, hbq]; have := TR5.lt; omega
  have nnq : bn ≠ bq := by rw [hbn, hbq]; have := TN5.lt; omega
  have kbq : w.heap.size ≤ bq := by rw [hbq]; exact b5.size
  clear TN TR TN4 TNr TN5 TR5 NMn NM4 NMr NM5 NR NR5 N5 N4 N3 N3a NM N2 n0 n1 n2 r0' r1' r2' hW hbn hbr hbq b3 bN b4 bR b5 hb1 hb2 hb3 hb4 hb5 aN aR aP
  go_region_held3 (fun v => v.cell? ⟨br, 0, none⟩ = some (.int .i64 Vr) ∧ v.cell? ⟨br, 1, none⟩ = some (.bool gr) ∧ v.cell? ⟨br, 2, none⟩ = some (.slice pr lr cr) ∧ v.cell? ⟨bn, 0, none⟩ = some (.int .i64 Vn) ∧ v.cell? ⟨bn, 1, none⟩ = some (.bool gn) ∧ v.cell? ⟨bn, 2, none⟩ = some (.slice pn ln cn)) (first | with_reducible exact ⟨x0, x1, x2, x3, x4, x5⟩ | with_reducible exact ⟨s0, s1, s2, s3, s4, s5⟩ | with_reducible exact ⟨t0, t1, t2, t3, t4, t5⟩ | (go_keep; done)) (first | (go_at_call 37; refine (num_mul_any (w := W.drew) NRp.drew NRp.drew (by decide) (by decide) (by decide)).mono ?_; rintro e w6 ⟨v6, rfl, N6, hc6⟩; obtain ⟨V6, g6, p6, l6, c6, rfl⟩ := N6.parts; (have hb6 : Below W.heap.size W w6 := ⟨hc6.os, hc6.tape, hc6.output, hc6.size, hc6.block⟩); (have TR6 := TRp.next hb6); (have TN6 := TNp.next hb6); (have TQ6 := TP.next hb6); (have NM6 := NMp.next hb6); (have NP6 := NPp.next hb6); (have b6 := bP.trans (hb6.mono bP.size)); obtain ⟨⟨s0, s1, s2⟩, _⟩ := blk3 TR6; obtain ⟨⟨s3, s4, s5⟩, _⟩ := blk3 TN6) | (go_at_call 42; refine (num_cmp (w := w6) N6 NM6 (by decide) (by decide) (by have := Int.mul_nonneg (Int.natCast_nonneg r) (Int.natCast_nonneg r); exact this) (by omega)).mono ?_; rw [hz]; rintro e w7 ⟨rfl, hb7⟩; (have TR7 := TR6.next hb7); (have TN7 := TN6.next hb7); (have TQ7 := TQ6.next hb7); (have NP7 := NP6.next hb7); (have b7 := b6.trans (hb7.mono b6.size)); obtain ⟨⟨t0, t1, t2⟩, _⟩ := blk3 TR7; obtain ⟨⟨t3, t4, t5⟩, _⟩ := blk3 TN7))
  clear x0 x1 x2 x3 x4 x5 s0 s1 s2 s3 s4 s5 t0 t1 t2 t3 t4 t5 TP TRp TNp NMp NRp NPp NM6 N6 NP6 TR6 TN6 TQ6 hb6 hb7 hc6 b6 bP TR7 TN7
  obtain ⟨⟨y0, y1, y2⟩, f0', f1', f2'⟩ := blk3 TQ7
  go_wp2
  · go_region_with (first | (go_at_call 38; refine (zSmall 1 (by decide) (by decide) _).mono ?_; rintro e w8 ⟨rfl, hc8⟩; (have hb8 : Below w7.heap.size w7 w8 := ⟨hc8.os, hc8.tape, hc8.output, hc8.size, hc8.block⟩); (have TQ8 := TQ7.next hb8); (have NP8 := NP7.next hb8); (have b8 := b7.trans (hb8.mono b7.size)); obtain ⟨⟨d0, d1, d2⟩, d3, d4, d5⟩ := blk3 TQ8) | (go_at_call 41; refine (num_add (w := w8) NP8 (num_small w8 3 1 (by decide) (by decide)) (by decide) (by decide) (by decide)).mono ?_; rintro e w9 ⟨v9, rfl, N9, hb9⟩; obtain ⟨Ve, ge, pe, le, ce, rfl⟩ := N9.parts; (have TQ9 := TQ8.next hb9); (have b9 := b8.trans (hb9.mono b8.size)); obtain ⟨⟨h0, h1, h2⟩, h3, h4, h5⟩ := blk3 TQ9))
    all_goals
      obtain ⟨WE, hWE⟩ : ∃ W, W = ((w9.setCell ⟨bq, 0, none⟩ (.int .i64 Ve)).setCell ⟨bq, 1, none⟩ (.bool ge)).setCell ⟨bq, 2, none⟩ (.slice pe le ce) := ⟨_, rfl⟩
      have TE : Three WE bq (.int .i64 Ve) (.bool ge) (.slice pe le ce) := by rw [hWE]; exact TQ9.set _ _ _
      have NE : Num WE 11 (.agg #[.int .i64 Ve, .bool ge, .slice pe le ce]) (((2 * r + 1) : Nat) : Int) := by rw [hWE]; have h := N9.set3 TQ9 (.int .i64 Ve) (.bool ge) (.slice pe le ce); rw [show (r : Int) + (r : Int) + 1 = (((2 * r + 1) : Nat) : Int) by omega] at h; exact h
      have bE : Below w.heap.size w WE := by rw [hWE]; exact below_set3 b9 kbq _ _ _
      (try rw [← hWE])
      clear hWE N9 TQ9 TQ8 NP8 NP7 TQ7 b8 b9 hb8 hb9 hc8 d0 d1 d2 d3 d4 d5 h0 h1 h2 h3 h4 h5 y0 y1 y2
      obtain ⟨⟨u0, u1, u2⟩, _⟩ := blk3 TE
      go_wp2
      go_region_held3 (fun v => v.cell? ⟨bq, 0, none⟩ = some (.int .i64 Ve) ∧ v.cell? ⟨bq, 1, none⟩ = some (.bool ge) ∧ v.cell? ⟨bq, 2, none⟩ = some (.slice pe le ce)) (first | with_reducible exact ⟨u0, u1, u2⟩ | with_reducible exact ⟨m0, m1, m2⟩ | with_reducible exact ⟨k0, k1, k2⟩ | with_reducible exact ⟨j0, j1, j2⟩ | (go_keep; done)) (first | (go_at_call 38; refine (zSmall 1 (by decide) (by decide) _).mono ?_; rintro e w10 ⟨rfl, hc10⟩; (have hb10 : Below WE.heap.size WE w10 := ⟨hc10.os, hc10.tape, hc10.output, hc10.size, hc10.block⟩); (have T10 := TE.next hb10); (have N10 := NE.next hb10); (have b10 := bE.trans (hb10.mono bE.size)); obtain ⟨⟨m0, m1, m2⟩, _⟩ := blk3 T10) | (go_at_call 36; refine (zWord _).mono ?_; rintro e w11 ⟨rfl, hb11⟩; (have T11 := T10.next hb11); (have N11 := N10.next hb11); (have b11 := b10.trans (hb11.mono b10.size)); obtain ⟨⟨k0, k1, k2⟩, _⟩ := blk3 T11) | (go_at_call 35; (try rw [ew1.out]); (try rw [ew2.out]); (with_reducible show Calls Tryd.prog 35 #[Value.agg #[Value.int IntKind.i64 Ve, Value.bool ge, Value.slice pe le ce, Value.int IntKind.i64 1, Value.bool false, Value.slice none 0 0, Value.int IntKind.i64 (D - 41)], _, _] w11 _); refine ((Hid.out HT) w11 11 3 Ve 1 ge false pe none le ce 0 0 N11 (num_small w11 3 1 (by decide) (by decide)) (by decide) (by decide)).mono ?_; rintro e w12 ⟨rfl, hb12⟩; (have T12 := T11.next hb12); (have b12 := b11.trans (hb12.mono b11.size)); obtain ⟨⟨j0, j1, j2⟩, _⟩ := blk3 T12))
      all_goals go_wp2
      all_goals go_ret
      all_goals exact ⟨by first | rfl | (show Ending.returned (.int .u32 (IntKind.u32.wrap R)) = _; rw [hwR]), b12⟩
include TA in
set_option maxRecDepth 100000 in
set_option maxHeartbeats 1500000 in
theorem s_num1q (w : World) (S M r : Nat) (p F R : Int) (S1 : S < 16777216) (S0 : 0 < S) (p0 : -149 ≤ p) (p1 : p ≤ 105) (hp2 : ¬ Int.tmod p 2 = 0) (hF : Int.tdiv (p - 1) 2 - 41 = F) (f0 : -200 ≤ F) (f1 : F ≤ 200) (hM : ((S : Int) * 2) * 2 ^ 80 = (M : Int)) (M0 : 0 < M) (M1 : M < 100000000000000000000000000000000) (hr : IsRoot M r) (hsq : r * r = M) (pA : Hid (∀ v : World, Calls Tryd.prog 30 #[.int .u32 a] v fun e' w' => e' = .returned (.tuple #[.int .i64 S, .int .i64 p]) ∧ w' = v)) (r0 : 0 ≤ R) (r1 : R < 4294967296)
    (HT : Hid (∀ (v : World) (K L : Nat) (VP VQ : Int) (gP gQ : Bool) (pP pQ : Option Addr) (lP cP lQ cQ : Nat), Num v K (.agg #[.int .i64 VP, .bool gP, .slice pP lP cP]) (((2 * r) : Nat) : Int) → Num v L (.agg #[.int .i64 VQ, .bool gQ, .slice pQ lQ cQ]) 1 → 2 ≤ K → K ≤ 9000 → Calls Tryd.prog 35 #[.agg #[.int .i64 VP, .bool gP, .slice pP lP cP, .int .i64 VQ, .bool gQ, .slice pQ lQ cQ, .int .i64 F], .agg #[.int .i64 24, .int .i64 (-149), .int .i64 104], .int .i64 mode] v fun e w' => e = .returned (.int .i64 R) ∧ Below v.heap.size v w')) :
    Calls Tryd.prog 16 #[.int .u32 a, .int .i64 mode] w fun e w' => e = .returned (.int .u32 R) ∧ Below w.heap.size w w' := by
  have nA : Hid (∀ v : World, Calls Tryd.prog 26 #[.int .u32 a] v fun e w' => e = .returned (.bool false) ∧ w' = v) := TA.neg
  have qA : Hid (∀ v : World, Calls Tryd.prog 13 #[.int .u32 a] v fun e w' => e = .returned (.bool (decide ((1 : Int) = 3))) ∧ w' = v) := TA.nan
  have iA : Hid (∀ v : World, Calls Tryd.prog 28 #[.int .u32 a] v fun e w' => e = .returned (.bool (decide ((1 : Int) = 2))) ∧ w' = v) := TA.inf
  have zA : Hid (∀ v : World, Calls Tryd.prog 27 #[.int .u32 a] v fun e w' => e = .returned (.bool (decide ((1 : Int) = 0))) ∧ w' = v) := TA.nil
  clear TA
  simp only [Int.reduceEq, decide_false] at qA iA zA
  have hwR : IntKind.u32.wrap R = R := by rw [IntKind.wrap_u32]; exact Int.emod_eq_of_lt r0 r1
  obtain ⟨D, hD⟩ : ∃ D, Int.tdiv (p - 1) 2 = D := ⟨_, rfl⟩
  have hDF : D - 41 = F := by omega
  have D0 : -159 ≤ D := by omega
  have D1 : D ≤ 241 := by omega
  subst hDF
  have ew1 : Hid (IntKind.i64.wrap D = D) := wr64 D (by omega) (by omega)
  have ew2 : Hid (IntKind.i64.wrap (D - 41) = D - 41) := wr64 (D - 41) (by omega) (by omega)
  have hp2' : (Int.tmod p 2 == 0) = false := by simpa using hp2
  have m18 : -1000000000000000000 < ((S : Int) * 2) ∧ ((S : Int) * 2) < 1000000000000000000 := by omega
  have HM : Hid (((S : Int) * 2) * 2 ^ 80 = (M : Int)) := hM
  have HR : Hid (IsRoot M r ∧ r * r = M) := ⟨hr, hsq⟩
  obtain ⟨z, hz⟩ : ∃ z, cmpZ ((r : Int) * (r : Int)) (M : Int) = z := ⟨_, rfl⟩
  have z0 : z = 0 := by
    rw [← hz]
    have e : ((r * r : Nat) : Int) = (r : Int) * (r : Int) := by simp
    unfold cmpZ
    (repeat' split) <;> omega
  subst z0
  have tp : Hid ((M : Int).natAbs < 1000000000 ^ 4) := by show _ < _; rw [Int.natAbs_natCast]; omega
  clear hM hr hsq hF
  go_enter Tryd.func16, Tryd.ntmps16
  go_wp2_with (first | (go_at_call 26; refine ((Hid.out nA) _).mono ?_; rintro e w' ⟨rfl, hw⟩; subst w') | (go_at_call 13; refine ((Hid.out qA) _).mono ?_; rintro e w' ⟨rfl, hw⟩; subst w') | (go_at_call 28; refine ((Hid.out iA) _).mono ?_; rintro e w' ⟨rfl, hw⟩; subst w') | (go_at_call 27; refine ((Hid.out zA) _).mono ?_; rintro e w' ⟨rfl, hw⟩; subst w') | (go_at_call 30; refine ((Hid.out pA) _).mono ?_; rintro e w' ⟨rfl, hw⟩; subst w') | (go_at_call 38; refine (zSmall ((S : Int) * 2) m18.1 m18.2 w).mono ?_; rintro e w1 ⟨rfl, hb1⟩) | (go_at_call 39; refine (num_power 80 (by decide) w1).mono ?_; rintro e w2 ⟨v2, rfl, N2, hb2⟩; obtain ⟨V2, g2, p2, l2, c2, rfl⟩ := N2.parts) | (go_at_call 37; refine (num_mul_any (w := w2) (num_small w2 3 ((S : Int) * 2) m18.1 m18.2) N2 (by decide) (by decide) (by decide)).mono ?_; rintro e w3 ⟨v3, rfl, N3a, hb3⟩; obtain ⟨Vn, gn, pn, ln, cn, rfl⟩ := N3a.parts; (have N3 := N3a); rw [HM.out] at N3; (have NM := N3.tight (k := 4) tp.out); (have b3 := (hb1.trans (hb2.mono hb1.size)).trans (hb3.mono (Nat.le_trans hb1.size hb2.size))); (have aN : Below w3.heap.size w3 (w3.alloc (.cells #[.int .i64 Vn, .bool gn, .slice pn ln cn] 50)) := ((Below.refl _ _).alloc (Nat.le_refl _) _)); (have TN : Three (w3.alloc (.cells #[.int .i64 Vn, .bool gn, .slice pn ln cn] 50)) w3.heap.size (.int .i64 Vn) (.bool gn) (.slice pn ln cn) := heap_alloc_new _ _); (have NMn := NM.next aN); (have bN := b3.trans (aN.mono b3.size)); obtain ⟨⟨n0, n1, n2⟩, _⟩ := blk3 TN) | (go_at_call 40; refine (num_root (w := (w3.alloc (.cells #[.int .i64 Vn, .bool gn, .slice pn ln cn] 50))) NMn (by decide) (by decide) M0 M1).mono ?_; rintro e w4 ⟨v4, r', rfl, hr', N4, hb4⟩; obtain ⟨Vr, gr, pr, lr, cr, rfl⟩ := N4.parts; obtain rfl : r = r' := (hr'.unique HR.out.1).symm; (have TN4 := TN.next hb4); (have NM4 := NMn.next hb4); (have b4 := bN.trans (hb4.mono bN.size)); (have aR : Below w4.heap.size w4 (w4.alloc (.cells #[.int .i64 Vr, .bool gr, .slice pr lr cr] 50)) := ((Below.refl _ _).alloc (Nat.le_refl _) _)); (have TR : Three (w4.alloc (.cells #[.int .i64 Vr, .bool gr, .slice pr lr cr] 50)) w4.heap.size (.int .i64 Vr) (.bool gr) (.slice pr lr cr) := heap_alloc_new _ _); (have TNr := TN4.next aR); (have NMr := NM4.next aR); (have NR := N4.next aR); (have bR := b4.trans (aR.mono b4.size)); obtain ⟨⟨r0', r1', r2'⟩, _⟩ := blk3 TR; clear hr') | (go_at_call 41; (with_reducible show Calls Tryd.prog 41 _ (w4.alloc (.cells #[.int .i64 Vr, .bool gr, .slice pr lr cr] 50)) _); refine (num_add (w := (w4.alloc (.cells #[.int .i64 Vr, .bool gr, .slice pr lr cr] 50))) NR NR (by decide) (by decide) (by decide)).mono ?_; rintro e w5 ⟨v5, rfl, N5, hb5⟩; obtain ⟨Vq, gq, pq, lq, cq, rfl⟩ := N5.parts; (have TN5 := TNr.next hb5); (have TR5 := TR.next hb5); (have NM5 := NMr.next hb5); (have NR5 := NR.next hb5); (have b5 := bR.trans (hb5.mono bR.size)); (have aP : Below w5.heap.size w5 (w5.alloc (.cells #[.int .i64 Vq, .bool gq, .slice pq lq cq] 50)) := ((Below.refl _ _).alloc (Nat.le_refl _) _)); (have TP : Three (w5.alloc (.cells #[.int .i64 Vq, .bool gq, .slice pq lq cq] 50)) w5.heap.size (.int .i64 Vq) (.bool gq) (.slice pq lq cq) := heap_alloc_new _ _); (have TNp := TN5.next aP); (have TRp := TR5.next aP); (have NMp := NM5.next aP); (have NRp := NR5.next aP); (have NPp := N5.next aP); (have bP := b5.trans (aP.mono b5.size)); obtain ⟨⟨x0, x1, x2⟩, _⟩ := blk3 TRp; obtain ⟨⟨x3, x4, x5⟩, _⟩ := blk3 TNp))
  obtain ⟨W, hW⟩ : ∃ W, W = (w5.alloc (.cells #[.int .i64 Vq, .bool gq, .slice pq lq cq] 50)) := ⟨_, rfl⟩
  obtain ⟨bn, hbn⟩ : ∃ b, b = w3.heap.size := ⟨_, rfl⟩
  obtain ⟨br, hbr⟩ : ∃ b, b = w4.heap.size := ⟨_, rfl⟩
  obtain ⟨bq, hbq⟩ : ∃ b, b = w5.heap.size := ⟨_, rfl⟩
  rw [← hW] at TNp TRp NMp NRp NPp bP x0 x1 x2 x3 x4 x5 TP ⊢
  rw [← hbn] at TNp x3 x4 x5
  rw [← hbr] at TRp x0 x1 x2
  rw [← hbq] at TP
  rw [← hbn, ← hbr, ← hbq]
  have nrq : br ≠ bq := by rw [hbr, hbq]; have := TR5.lt; omega
  have nnq : bn ≠ bq := by rw [hbn, hbq]; have := TN5.lt; omega
  have kbq : w.heap.size ≤ bq := by rw [hbq]; exact b5.size
  clear TN TR TN4 TNr TN5 TR5 NMn NM4 NMr NM5 NR NR5 N5 N4 N3 N3a NM N2 n0 n1 n2 r0' r1' r2' hW hbn hbr hbq b3 bN b4 bR b5 hb1 hb2 hb3 hb4 hb5 aN aR aP
  go_region_held3 (fun v => v.cell? ⟨br, 0, none⟩ = some (.int .i64 Vr) ∧ v.cell? ⟨br, 1, none⟩ = some (.bool gr) ∧ v.cell? ⟨br, 2, none⟩ = some (.slice pr lr cr) ∧ v.cell? ⟨bn, 0, none⟩ = some (.int .i64 Vn) ∧ v.cell? ⟨bn, 1, none⟩ = some (.bool gn) ∧ v.cell? ⟨bn, 2, none⟩ = some (.slice pn ln cn)) (first | with_reducible exact ⟨x0, x1, x2, x3, x4, x5⟩ | with_reducible exact ⟨s0, s1, s2, s3, s4, s5⟩ | with_reducible exact ⟨t0, t1, t2, t3, t4, t5⟩ | (go_keep; done)) (first | (go_at_call 37; refine (num_mul_any (w := W.drew) NRp.drew NRp.drew (by decide) (by decide) (by decide)).mono ?_; rintro e w6 ⟨v6, rfl, N6, hc6⟩; obtain ⟨V6, g6, p6, l6, c6, rfl⟩ := N6.parts; (have hb6 : Below W.heap.size W w6 := ⟨hc6.os, hc6.tape, hc6.output, hc6.size, hc6.block⟩); (have TR6 := TRp.next hb6); (have TN6 := TNp.next hb6); (have TQ6 := TP.next hb6); (have NM6 := NMp.next hb6); (have NP6 := NPp.next hb6); (have b6 := bP.trans (hb6.mono bP.size)); obtain ⟨⟨s0, s1, s2⟩, _⟩ := blk3 TR6; obtain ⟨⟨s3, s4, s5⟩, _⟩ := blk3 TN6) | (go_at_call 42; refine (num_cmp (w := w6) N6 NM6 (by decide) (by decide) (by have := Int.mul_nonneg (Int.natCast_nonneg r) (Int.natCast_nonneg r); exact this) (by omega)).mono ?_; rw [hz]; rintro e w7 ⟨rfl, hb7⟩; (have TR7 := TR6.next hb7); (have TN7 := TN6.next hb7); (have TQ7 := TQ6.next hb7); (have NP7 := NP6.next hb7); (have b7 := b6.trans (hb7.mono b6.size)); obtain ⟨⟨t0, t1, t2⟩, _⟩ := blk3 TR7; obtain ⟨⟨t3, t4, t5⟩, _⟩ := blk3 TN7))
  clear x0 x1 x2 x3 x4 x5 s0 s1 s2 s3 s4 s5 t0 t1 t2 t3 t4 t5 TP TRp TNp NMp NRp NPp NM6 N6 NP6 TR6 TN6 TQ6 hb6 hb7 hc6 b6 bP TR7 TN7
  obtain ⟨⟨y0, y1, y2⟩, f0', f1', f2'⟩ := blk3 TQ7
  go_wp2
  · have TE : Three w7 bq (.int .i64 Vq) (.bool gq) (.slice pq lq cq) := TQ7
    have NE : Num w7 7 (.agg #[.int .i64 Vq, .bool gq, .slice pq lq cq]) (((2 * r) : Nat) : Int) := by have h := NP7; rw [show (r : Int) + (r : Int) = (((2 * r) : Nat) : Int) by omega] at h; exact h
    have bE := b7
    obtain ⟨⟨u0, u1, u2⟩, _⟩ := blk3 TE
    go_region_held3 (fun v => v.cell? ⟨bq, 0, none⟩ = some (.int .i64 Vq) ∧ v.cell? ⟨bq, 1, none⟩ = some (.bool gq) ∧ v.cell? ⟨bq, 2, none⟩ = some (.slice pq lq cq)) (first | with_reducible exact ⟨u0, u1, u2⟩ | with_reducible exact ⟨m0, m1, m2⟩ | with_reducible exact ⟨k0, k1, k2⟩ | with_reducible exact ⟨j0, j1, j2⟩ | (go_keep; done)) (first | (go_at_call 38; refine (zSmall 1 (by decide) (by decide) _).mono ?_; rintro e w10 ⟨rfl, hc10⟩; (have hb10 : Below w7.heap.size w7 w10 := ⟨hc10.os, hc10.tape, hc10.output, hc10.size, hc10.block⟩); (have T10 := TE.next hb10); (have N10 := NE.next hb10); (have b10 := bE.trans (hb10.mono bE.size)); obtain ⟨⟨m0, m1, m2⟩, _⟩ := blk3 T10) | (go_at_call 36; refine (zWord _).mono ?_; rintro e w11 ⟨rfl, hb11⟩; (have T11 := T10.next hb11); (have N11 := N10.next hb11); (have b11 := b10.trans (hb11.mono b10.size)); obtain ⟨⟨k0, k1, k2⟩, _⟩ := blk3 T11) | (go_at_call 35; (try rw [ew1.out]); (try rw [ew2.out]); (with_reducible show Calls Tryd.prog 35 #[Value.agg #[Value.int IntKind.i64 Vq, Value.bool gq, Value.slice pq lq cq, Value.int IntKind.i64 1, Value.bool false, Value.slice none 0 0, Value.int IntKind.i64 (D - 41)], _, _] w11 _); refine ((Hid.out HT) w11 7 3 Vq 1 gq false pq none lq cq 0 0 N11 (num_small w11 3 1 (by decide) (by decide)) (by decide) (by decide)).mono ?_; rintro e w12 ⟨rfl, hb12⟩; (have T12 := T11.next hb12); (have b12 := b11.trans (hb12.mono b11.size)); obtain ⟨⟨j0, j1, j2⟩, _⟩ := blk3 T12))
    all_goals go_wp2
    all_goals go_ret
    all_goals exact ⟨by first | rfl | (show Ending.returned (.int .u32 (IntKind.u32.wrap R)) = _; rw [hwR]), b12⟩
include TA in
set_option maxRecDepth 100000 in
set_option maxHeartbeats 1500000 in
theorem s_num1n (w : World) (S M r : Nat) (p F R : Int) (S1 : S < 16777216) (S0 : 0 < S) (p0 : -149 ≤ p) (p1 : p ≤ 105) (hp2 : ¬ Int.tmod p 2 = 0) (hF : Int.tdiv (p - 1) 2 - 41 = F) (f0 : -200 ≤ F) (f1 : F ≤ 200) (hM : ((S : Int) * 2) * 2 ^ 80 = (M : Int)) (M0 : 0 < M) (M1 : M < 100000000000000000000000000000000) (hr : IsRoot M r) (hsq : ¬ r * r = M) (pA : Hid (∀ v : World, Calls Tryd.prog 30 #[.int .u32 a] v fun e' w' => e' = .returned (.tuple #[.int .i64 S, .int .i64 p]) ∧ w' = v)) (r0 : 0 ≤ R) (r1 : R < 4294967296)
    (HT : Hid (∀ (v : World) (K L : Nat) (VP VQ : Int) (gP gQ : Bool) (pP pQ : Option Addr) (lP cP lQ cQ : Nat), Num v K (.agg #[.int .i64 VP, .bool gP, .slice pP lP cP]) (((2 * r + 1) : Nat) : Int) → Num v L (.agg #[.int .i64 VQ, .bool gQ, .slice pQ lQ cQ]) 1 → 2 ≤ K → K ≤ 9000 → Calls Tryd.prog 35 #[.agg #[.int .i64 VP, .bool gP, .slice pP lP cP, .int .i64 VQ, .bool gQ, .slice pQ lQ cQ, .int .i64 F], .agg #[.int .i64 24, .int .i64 (-149), .int .i64 104], .int .i64 mode] v fun e w' => e = .returned (.int .i64 R) ∧ Below v.heap.size v w')) :
    Calls Tryd.prog 16 #[.int .u32 a, .int .i64 mode] w fun e w' => e = .returned (.int .u32 R) ∧ Below w.heap.size w w' := by
  have nA : Hid (∀ v : World, Calls Tryd.prog 26 #[.int .u32 a] v fun e w' => e = .returned (.bool false) ∧ w' = v) := TA.neg
  have qA : Hid (∀ v : World, Calls Tryd.prog 13 #[.int .u32 a] v fun e w' => e = .returned (.bool (decide ((1 : Int) = 3))) ∧ w' = v) := TA.nan
  have iA : Hid (∀ v : World, Calls Tryd.prog 28 #[.int .u32 a] v fun e w' => e = .returned (.bool (decide ((1 : Int) = 2))) ∧ w' = v) := TA.inf
  have zA : Hid (∀ v : World, Calls Tryd.prog 27 #[.int .u32 a] v fun e w' => e = .returned (.bool (decide ((1 : Int) = 0))) ∧ w' = v) := TA.nil
  clear TA
  simp only [Int.reduceEq, decide_false] at qA iA zA
  have hwR : IntKind.u32.wrap R = R := by rw [IntKind.wrap_u32]; exact Int.emod_eq_of_lt r0 r1
  obtain ⟨D, hD⟩ : ∃ D, Int.tdiv (p - 1) 2 = D := ⟨_, rfl⟩
  have hDF : D - 41 = F := by omega
  have D0 : -159 ≤ D := by omega
  have D1 : D ≤ 241 := by omega
  subst hDF
  have ew1 : Hid (IntKind.i64.wrap D = D) := wr64 D (by omega) (by omega)
  have ew2 : Hid (IntKind.i64.wrap (D - 41) = D - 41) := wr64 (D - 41) (by omega) (by omega)
  have hp2' : (Int.tmod p 2 == 0) = false := by simpa using hp2
  have m18 : -1000000000000000000 < ((S : Int) * 2) ∧ ((S : Int) * 2) < 1000000000000000000 := by omega
  have HM : Hid (((S : Int) * 2) * 2 ^ 80 = (M : Int)) := hM
  have HR : Hid (IsRoot M r ∧ ¬ r * r = M) := ⟨hr, hsq⟩
  obtain ⟨z, hz⟩ : ∃ z, cmpZ ((r : Int) * (r : Int)) (M : Int) = z := ⟨_, rfl⟩
  have z0 : ¬ z = 0 := by
    rw [← hz]
    have e : ((r * r : Nat) : Int) = (r : Int) * (r : Int) := by simp
    unfold cmpZ
    (repeat' split) <;> omega
  have z0' : (z == 0) = false := by simpa using z0
  have tp : Hid ((M : Int).natAbs < 1000000000 ^ 4) := by show _ < _; rw [Int.natAbs_natCast]; omega
  clear hM hr hsq hF
  go_enter Tryd.func16, Tryd.ntmps16
  go_wp2_with (first | (go_at_call 26; refine ((Hid.out nA) _).mono ?_; rintro e w' ⟨rfl, hw⟩; subst w') | (go_at_call 13; refine ((Hid.out qA) _).mono ?_; rintro e w' ⟨rfl, hw⟩; subst w') | (go_at_call 28; refine ((Hid.out iA) _).mono ?_; rintro e w' ⟨rfl, hw⟩; subst w') | (go_at_call 27; refine ((Hid.out zA) _).mono ?_; rintro e w' ⟨rfl, hw⟩; subst w') | (go_at_call 30; refine ((Hid.out pA) _).mono ?_; rintro e w' ⟨rfl, hw⟩; subst w') | (go_at_call 38; refine (zSmall ((S : Int) * 2) m18.1 m18.2 w).mono ?_; rintro e w1 ⟨rfl, hb1⟩) | (go_at_call 39; refine (num_power 80 (by decide) w1).mono ?_; rintro e w2 ⟨v2, rfl, N2, hb2⟩; obtain ⟨V2, g2, p2, l2, c2, rfl⟩ := N2.parts) | (go_at_call 37; refine (num_mul_any (w := w2) (num_small w2 3 ((S : Int) * 2) m18.1 m18.2) N2 (by decide) (by decide) (by decide)).mono ?_; rintro e w3 ⟨v3, rfl, N3a, hb3⟩; obtain ⟨Vn, gn, pn, ln, cn, rfl⟩ := N3a.parts; (have N3 := N3a); rw [HM.out] at N3; (have NM := N3.tight (k := 4) tp.out); (have b3 := (hb1.trans (hb2.mono hb1.size)).trans (hb3.mono (Nat.le_trans hb1.size hb2.size))); (have aN : Below w3.heap.size w3 (w3.alloc (.cells #[.int .i64 Vn, .bool gn, .slice pn ln cn] 50)) := ((Below.refl _ _).alloc (Nat.le_refl _) _)); (have TN : Three (w3.alloc (.cells #[.int .i64 Vn, .bool gn, .slice pn ln cn] 50)) w3.heap.size (.int .i64 Vn) (.bool gn) (.slice pn ln cn) := heap_alloc_new _ _); (have NMn := NM.next aN); (have bN := b3.trans (aN.mono b3.size)); obtain ⟨⟨n0, n1, n2⟩, _⟩ := blk3 TN) | (go_at_call 40; refine (num_root (w := (w3.alloc (.cells #[.int .i64 Vn, .bool gn, .slice pn ln cn] 50))) NMn (by decide) (by decide) M0 M1).mono ?_; rintro e w4 ⟨v4, r', rfl, hr', N4, hb4⟩; obtain ⟨Vr, gr, pr, lr, cr, rfl⟩ := N4.parts; obtain rfl : r = r' := (hr'.unique HR.out.1).symm; (have TN4 := TN.next hb4); (have NM4 := NMn.next hb4); (have b4 := bN.trans (hb4.mono bN.size)); (have aR : Below w4.heap.size w4 (w4.alloc (.cells #[.int .i64 Vr, .bool gr, .slice pr lr cr] 50)) := ((Below.refl _ _).alloc (Nat.le_refl _) _)); (have TR : Three (w4.alloc (.cells #[.int .i64 Vr, .bool gr, .slice pr lr cr] 50)) w4.heap.size (.int .i64 Vr) (.bool gr) (.slice pr lr cr) := heap_alloc_new _ _); (have TNr := TN4.next aR); (have NMr := NM4.next aR); (have NR := N4.next aR); (have bR := b4.trans (aR.mono b4.size)); obtain ⟨⟨r0', r1', r2'⟩, _⟩ := blk3 TR; clear hr') | (go_at_call 41; (with_reducible show Calls Tryd.prog 41 _ (w4.alloc (.cells #[.int .i64 Vr, .bool gr, .slice pr lr cr] 50)) _); refine (num_add (w := (w4.alloc (.cells #[.int .i64 Vr, .bool gr, .slice pr lr cr] 50))) NR NR (by decide) (by decide) (by decide)).mono ?_; rintro e w5 ⟨v5, rfl, N5, hb5⟩; obtain ⟨Vq, gq, pq, lq, cq, rfl⟩ := N5.parts; (have TN5 := TNr.next hb5); (have TR5 := TR.next hb5); (have NM5 := NMr.next hb5); (have NR5 := NR.next hb5); (have b5 := bR.trans (hb5.mono bR.size)); (have aP : Below w5.heap.size w5 (w5.alloc (.cells #[.int .i64 Vq, .bool gq, .slice pq lq cq] 50)) := ((Below.refl _ _).alloc (Nat.le_refl _) _)); (have TP : Three (w5.alloc (.cells #[.int .i64 Vq, .bool gq, .slice pq lq cq] 50)) w5.heap.size (.int .i64 Vq) (.bool gq) (.slice pq lq cq) := heap_alloc_new _ _); (have TNp := TN5.next aP); (have TRp := TR5.next aP); (have NMp := NM5.next aP); (have NRp := NR5.next aP); (have NPp := N5.next aP); (have bP := b5.trans (aP.mono b5.size)); obtain ⟨⟨x0, x1, x2⟩, _⟩ := blk3 TRp; obtain ⟨⟨x3, x4, x5⟩, _⟩ := blk3 TNp))
  obtain ⟨W, hW⟩ : ∃ W, W = (w5.alloc (.cells #[.int .i64 Vq, .bool gq, .slice pq lq cq] 50)) := ⟨_, rfl⟩
  obtain ⟨bn, hbn⟩ : ∃ b, b = w3.heap.size := ⟨_, rfl⟩
  obtain ⟨br, hbr⟩ : ∃ b, b = w4.heap.size := ⟨_, rfl⟩
  obtain ⟨bq, hbq⟩ : ∃ b, b = w5.heap.size := ⟨_, rfl⟩
  rw [← hW] at TNp TRp NMp NRp NPp bP x0 x1 x2 x3 x4 x5 TP ⊢
  rw [← hbn] at TNp x3 x4 x5
  rw [← hbr] at TRp x0 x1 x2
  rw [← hbq] at TP
  rw [← hbn, ← hbr, ← hbq]
  have nrq : br ≠ bq := by rw [hbr, hbq]; have := TR5.lt; omega
  have nnq : bn ≠ bq := by rw [hbn, hbq]; have := TN5.lt; omega
  have kbq : w.heap.size ≤ bq := by rw [hbq]; exact b5.size
  clear TN TR TN4 TNr TN5 TR5 NMn NM4 NMr NM5 NR NR5 N5 N4 N3 N3a NM N2 n0 n1 n2 r0' r1' r2' hW hbn hbr hbq b3 bN b4 bR b5 hb1 hb2 hb3 hb4 hb5 aN aR aP
  go_region_held3 (fun v => v.cell? ⟨br, 0, none⟩ = some (.int .i64 Vr) ∧ v.cell? ⟨br, 1, none⟩ = some (.bool gr) ∧ v.cell? ⟨br, 2, none⟩ = some (.slice pr lr cr) ∧ v.cell? ⟨bn, 0, none⟩ = some (.int .i64 Vn) ∧ v.cell? ⟨bn, 1, none⟩ = some (.bool gn) ∧ v.cell? ⟨bn, 2, none⟩ = some (.slice pn ln cn)) (first | with_reducible exact ⟨x0, x1, x2, x3, x4, x5⟩ | with_reducible exact ⟨s0, s1, s2, s3, s4, s5⟩ | with_reducible exact ⟨t0, t1, t2, t3, t4, t5⟩ | (go_keep; done)) (first | (go_at_call 37; refine (num_mul_any (w := W.drew) NRp.drew NRp.drew (by decide) (by decide) (by decide)).mono ?_; rintro e w6 ⟨v6, rfl, N6, hc6⟩; obtain ⟨V6, g6, p6, l6, c6, rfl⟩ := N6.parts; (have hb6 : Below W.heap.size W w6 := ⟨hc6.os, hc6.tape, hc6.output, hc6.size, hc6.block⟩); (have TR6 := TRp.next hb6); (have TN6 := TNp.next hb6); (have TQ6 := TP.next hb6); (have NM6 := NMp.next hb6); (have NP6 := NPp.next hb6); (have b6 := bP.trans (hb6.mono bP.size)); obtain ⟨⟨s0, s1, s2⟩, _⟩ := blk3 TR6; obtain ⟨⟨s3, s4, s5⟩, _⟩ := blk3 TN6) | (go_at_call 42; refine (num_cmp (w := w6) N6 NM6 (by decide) (by decide) (by have := Int.mul_nonneg (Int.natCast_nonneg r) (Int.natCast_nonneg r); exact this) (by omega)).mono ?_; rw [hz]; rintro e w7 ⟨rfl, hb7⟩; (have TR7 := TR6.next hb7); (have TN7 := TN6.next hb7); (have TQ7 := TQ6.next hb7); (have NP7 := NP6.next hb7); (have b7 := b6.trans (hb7.mono b6.size)); obtain ⟨⟨t0, t1, t2⟩, _⟩ := blk3 TR7; obtain ⟨⟨t3, t4, t5⟩, _⟩ := blk3 TN7))
  clear x0 x1 x2 x3 x4 x5 s0 s1 s2 s3 s4 s5 t0 t1 t2 t3 t4 t5 TP TRp TNp NMp NRp NPp NM6 N6 NP6 TR6 TN6 TQ6 hb6 hb7 hc6 b6 bP TR7 TN7
  obtain ⟨⟨y0, y1, y2⟩, f0', f1', f2'⟩ := blk3 TQ7
  go_wp2
  · go_region_with (first | (go_at_call 38; refine (zSmall 1 (by decide) (by decide) _).mono ?_; rintro e w8 ⟨rfl, hc8⟩; (have hb8 : Below w7.heap.size w7 w8 := ⟨hc8.os, hc8.tape, hc8.output, hc8.size, hc8.block⟩); (have TQ8 := TQ7.next hb8); (have NP8 := NP7.next hb8); (have b8 := b7.trans (hb8.mono b7.size)); obtain ⟨⟨d0, d1, d2⟩, d3, d4, d5⟩ := blk3 TQ8) | (go_at_call 41; refine (num_add (w := w8) NP8 (num_small w8 3 1 (by decide) (by decide)) (by decide) (by decide) (by decide)).mono ?_; rintro e w9 ⟨v9, rfl, N9, hb9⟩; obtain ⟨Ve, ge, pe, le, ce, rfl⟩ := N9.parts; (have TQ9 := TQ8.next hb9); (have b9 := b8.trans (hb9.mono b8.size)); obtain ⟨⟨h0, h1, h2⟩, h3, h4, h5⟩ := blk3 TQ9))
    all_goals
      obtain ⟨WE, hWE⟩ : ∃ W, W = ((w9.setCell ⟨bq, 0, none⟩ (.int .i64 Ve)).setCell ⟨bq, 1, none⟩ (.bool ge)).setCell ⟨bq, 2, none⟩ (.slice pe le ce) := ⟨_, rfl⟩
      have TE : Three WE bq (.int .i64 Ve) (.bool ge) (.slice pe le ce) := by rw [hWE]; exact TQ9.set _ _ _
      have NE : Num WE 11 (.agg #[.int .i64 Ve, .bool ge, .slice pe le ce]) (((2 * r + 1) : Nat) : Int) := by rw [hWE]; have h := N9.set3 TQ9 (.int .i64 Ve) (.bool ge) (.slice pe le ce); rw [show (r : Int) + (r : Int) + 1 = (((2 * r + 1) : Nat) : Int) by omega] at h; exact h
      have bE : Below w.heap.size w WE := by rw [hWE]; exact below_set3 b9 kbq _ _ _
      (try rw [← hWE])
      clear hWE N9 TQ9 TQ8 NP8 NP7 TQ7 b8 b9 hb8 hb9 hc8 d0 d1 d2 d3 d4 d5 h0 h1 h2 h3 h4 h5 y0 y1 y2
      obtain ⟨⟨u0, u1, u2⟩, _⟩ := blk3 TE
      go_wp2
      go_region_held3 (fun v => v.cell? ⟨bq, 0, none⟩ = some (.int .i64 Ve) ∧ v.cell? ⟨bq, 1, none⟩ = some (.bool ge) ∧ v.cell? ⟨bq, 2, none⟩ = some (.slice pe le ce)) (first | with_reducible exact ⟨u0, u1, u2⟩ | with_reducible exact ⟨m0, m1, m2⟩ | with_reducible exact ⟨k0, k1, k2⟩ | with_reducible exact ⟨j0, j1, j2⟩ | (go_keep; done)) (first | (go_at_call 38; refine (zSmall 1 (by decide) (by decide) _).mono ?_; rintro e w10 ⟨rfl, hc10⟩; (have hb10 : Below WE.heap.size WE w10 := ⟨hc10.os, hc10.tape, hc10.output, hc10.size, hc10.block⟩); (have T10 := TE.next hb10); (have N10 := NE.next hb10); (have b10 := bE.trans (hb10.mono bE.size)); obtain ⟨⟨m0, m1, m2⟩, _⟩ := blk3 T10) | (go_at_call 36; refine (zWord _).mono ?_; rintro e w11 ⟨rfl, hb11⟩; (have T11 := T10.next hb11); (have N11 := N10.next hb11); (have b11 := b10.trans (hb11.mono b10.size)); obtain ⟨⟨k0, k1, k2⟩, _⟩ := blk3 T11) | (go_at_call 35; (try rw [ew1.out]); (try rw [ew2.out]); (with_reducible show Calls Tryd.prog 35 #[Value.agg #[Value.int IntKind.i64 Ve, Value.bool ge, Value.slice pe le ce, Value.int IntKind.i64 1, Value.bool false, Value.slice none 0 0, Value.int IntKind.i64 (D - 41)], _, _] w11 _); refine ((Hid.out HT) w11 11 3 Ve 1 ge false pe none le ce 0 0 N11 (num_small w11 3 1 (by decide) (by decide)) (by decide) (by decide)).mono ?_; rintro e w12 ⟨rfl, hb12⟩; (have T12 := T11.next hb12); (have b12 := b11.trans (hb12.mono b11.size)); obtain ⟨⟨j0, j1, j2⟩, _⟩ := blk3 T12))
      all_goals go_wp2
      all_goals go_ret
      all_goals exact ⟨by first | rfl | (show Ending.returned (.int .u32 (IntKind.u32.wrap R)) = _; rw [hwR]), b12⟩
end
end Go.Proofs.YtoloenkcfpfgcaaDoor.fnExactRootWord
namespace Go.Proofs.YtoloenkcfpfgcaaDoor.fnExactRootWord
open Go.ChangeShapes Go.WideShapes Go.ChangeAt Go.RowKit
set_option linter.unusedVariables false
theorem exists_root : ∀ n : Nat, ∃ r, IsRoot n r
  | 0 => ⟨0, by decide, by decide⟩
  | n + 1 => by
    obtain ⟨r, h1, h2⟩ := exists_root n
    by_cases h : (r + 1) * (r + 1) ≤ n + 1
    · refine ⟨r + 1, h, ?_⟩
      have := sq_lt (r + 1) (r + 1 + 1) (by omega)
      omega
    · exact ⟨r, by omega, by omega⟩
theorem k_unique (S k k' : Nat) (E E' p : Int) (h1 : 1152921504606846976 ≤ S * 2 ^ k) (h2 : S * 2 ^ k < 4611686018427387904) (h3 : 1152921504606846976 ≤ S * 2 ^ k') (h4 : S * 2 ^ k' < 4611686018427387904) (e : 2 * E = p - (k : Int)) (e' : 2 * E' = p - (k' : Int)) : k = k' := by
  have key : ∀ i j : Nat, i + 2 ≤ j → S * 2 ^ i * 4 ≤ S * 2 ^ j := by
    intro i j h
    obtain ⟨d, rfl⟩ : ∃ d, j = i + 2 + d := ⟨j - (i + 2), by omega⟩
    rw [Nat.pow_add, Nat.pow_add, ← Nat.mul_assoc, ← Nat.mul_assoc]
    have := p2 d
    exact Nat.le_mul_of_pos_right _ this
  rcases Nat.lt_trichotomy k k' with h | h | h
  · have := key k k' (by omega); omega
  · exact h
  · have := key k' k (by omega); omega
theorem root_can (S : Nat) (p : Int) (S0 : 0 < S) (S1 : S < 16777216) (p0 : -149 ≤ p) (p1 : p ≤ 105) : ∃ (Z r k : Nat) (E : Int), IsRoot Z r ∧ Z = S * 2 ^ k ∧ 2 * E = p - (k : Int) ∧ 1152921504606846976 ≤ Z ∧ Z < 4611686018427387904 ∧
    ∀ w : World, Calls Tryd.prog 56 #[.agg #[.bool false, .int .u64 S, .int .i64 p, .bool false]] w fun e w' => e = .returned (.agg #[.bool false, .int .u64 r, .int .i64 E, .bool (decide (r * r ≠ Z))]) ∧ Below w.heap.size w w' := by
  obtain ⟨L0, lb0, lb1⟩ := bitLen_spec S S0 (by omega)
  have l24 := Lib.bitLen_le S 24 (by decide) (by omega)
  obtain ⟨L, hL⟩ : ∃ L, Lib.bitLen S = L := ⟨_, rfl⟩
  rw [hL] at L0 lb0 lb1 l24
  obtain ⟨k, E, hk, hE⟩ : ∃ (k : Nat) (E : Int), (k = 61 - L ∨ k = 62 - L) ∧ 2 * E = p - (k : Int) := by
    by_cases h : (p - ((61 - L : Nat) : Int)) % 2 = 0
    · exact ⟨61 - L, (p - ((61 - L : Nat) : Int)) / 2, Or.inl rfl, by omega⟩
    · exact ⟨62 - L, (p - ((62 - L : Nat) : Int)) / 2, Or.inr rfl, by omega⟩
  obtain ⟨Z, hZ⟩ : ∃ Z, S * 2 ^ k = Z := ⟨_, rfl⟩
  have Z0 : 1152921504606846976 ≤ Z := by
    have e : 2 ^ (L - 1) * 2 ^ k ≤ S * 2 ^ k := Nat.mul_le_mul_right _ lb0
    rw [← Nat.pow_add, hZ] at e
    have : 2 ^ 60 ≤ 2 ^ (L - 1 + k) := Nat.pow_le_pow_right (by decide) (by omega)
    omega
  have Z1 : Z < 4611686018427387904 := by
    have e : S * 2 ^ k < 2 ^ L * 2 ^ k := Nat.mul_lt_mul_of_pos_right lb1 (p2 _)
    rw [← Nat.pow_add, hZ] at e
    have : 2 ^ (L + k) ≤ 2 ^ 62 := Nat.pow_le_pow_right (by decide) (by omega)
    omega
  obtain ⟨r, hr⟩ := exists_root Z
  refine ⟨Z, r, k, E, hr, hZ.symm, hE, Z0, Z1, fun w => (rootOf66 S p S0 S1 p0 p1 w).mono fun e w' ⟨⟨Z', r', k', E', m, he, hr', hZ', hE', z0, z1, hm⟩, hb⟩ => ⟨?_, hb⟩⟩
  have hkk : k' = k := k_unique S k' k E' E p (by rw [← hZ']; exact z0) (by rw [← hZ']; exact z1) (by rw [hZ]; exact Z0) (by rw [hZ]; exact Z1) hE' hE
  have hZZ : Z' = Z := by rw [hZ', hkk, hZ]
  have hEE : E' = E := by rw [hkk] at hE'; omega
  subst hZZ
  have hrr : r' = r := hr'.unique hr
  rw [he, hm, hrr, hEE]
set_option maxHeartbeats 1000000 in
theorem both (a mode : Int) (a0 : 0 ≤ a) (a1 : a < 4294967296) (hm : 0 ≤ mode ∧ mode ≤ 4) : ∃ R : Int,
    (∀ w : World, Calls Tryd.prog 16 #[.int .u32 a, .int .i64 mode] w fun e w' => e = .returned (.int .u32 R) ∧ Below w.heap.size w w') ∧
    (∀ w : World, Forms w → Calls Tryd.prog 23 #[.int .u32 a, .int .i64 mode] w fun e w' => e = .returned (.int .u32 R) ∧ Below w.heap.size w w') := by
  obtain ⟨x, hx⟩ : ∃ x, kindI (a % 2147483648) = x := ⟨_, rfl⟩
  obtain ⟨SA, hSA⟩ : ∃ s, decide (2147483648 ≤ a) = s := ⟨_, rfl⟩
  have xb := kind_bd (a % 2147483648)
  rw [hx] at xb
  have TA := tests a x SA a0 a1 hx hSA
  have easy := fun (R : Int) (hc : x = 0 ∧ R = a ∨ x = 3 ∧ R = 2143289344 ∨ (x = 1 ∨ x = 2) ∧ SA = true ∧ R = 2143289344 ∨ x = 2 ∧ SA = false ∧ R = a) =>
    (⟨R, fun w => s_of a mode R hm w (s_easy a mode x SA TA w R hc), fun w G => i_easy a mode x SA hm a0 a1 hx hSA w G R hc⟩ : ∃ R : Int,
    (∀ w : World, Calls Tryd.prog 16 #[.int .u32 a, .int .i64 mode] w fun e w' => e = .returned (.int .u32 R) ∧ Below w.heap.size w w') ∧
    (∀ w : World, Forms w → Calls Tryd.prog 23 #[.int .u32 a, .int .i64 mode] w fun e w' => e = .returned (.int .u32 R) ∧ Below w.heap.size w w'))
  by_cases x0 : x = 0
  · exact easy a (Or.inl ⟨x0, rfl⟩)
  by_cases x3 : x = 3
  · exact easy _ (Or.inr (Or.inl ⟨x3, rfl⟩))
  have x12 : x = 1 ∨ x = 2 := by omega
  cases SA
  case true => exact easy _ (Or.inr (Or.inr (Or.inl ⟨x12, rfl, rfl⟩)))
  by_cases x2 : x = 2
  · exact easy a (Or.inr (Or.inr (Or.inr ⟨x2, rfl, rfl⟩)))
  have x1 : x = 1 := by omega
  subst x1
  have la : a % 2147483648 < 2139095040 ∧ 0 < exS (a % 2147483648) := by
    have h := hx
    unfold kindI at h
    unfold exS
    refine ⟨?_, ?_⟩ <;> (repeat' split at h) <;> (repeat' split) <;> omega
  have sbA := exS_bd (a % 2147483648) (by omega)
  have pbA := exP_bd (a % 2147483648) (by omega) (by omega)
  have pA := fun v : World => sParts_any a a0 a1 v
  rw [hSA] at pA
  obtain ⟨S', hS⟩ : ∃ S, exS (a % 2147483648) = S := ⟨_, rfl⟩
  obtain ⟨p, hp⟩ : ∃ E, exP (a % 2147483648) = E := ⟨_, rfl⟩
  rw [hS] at sbA la pA
  rw [hp] at pbA pA
  obtain ⟨S, rfl⟩ := Int.eq_ofNat_of_zero_le sbA.1
  have pA' : ∀ v : World, Calls Tryd.prog 30 #[.int .u32 a] v fun e' w' => e' = .returned (.tuple #[.int .i64 S, .int .i64 p]) ∧ w' = v := pA
  obtain ⟨Z, Rt, k, E, hR, hZ, hE, z0, z1, hI⟩ := root_can S p (by omega) (by omega) pbA.1 pbA.2
  have fin : ∀ (t M r P : Nat) (F : Int), t ≤ 1 → M = S * 2 ^ t * 2 ^ 80 → IsRoot M r → P = 2 * r + (if r * r = M then 0 else 1) → 2 * F = p - (t : Int) - 82 → (∀ R : Int, 0 ≤ R → R < 4294967296 → (∀ (v : World) (K L : Nat) (VP VQ : Int) (gP gQ : Bool) (pP pQ : Option Addr) (lP cP lQ cQ : Nat), Num v K (.agg #[.int .i64 VP, .bool gP, .slice pP lP cP]) (P : Int) → Num v L (.agg #[.int .i64 VQ, .bool gQ, .slice pQ lQ cQ]) 1 → 2 ≤ K → K ≤ 9000 → Calls Tryd.prog 35 #[.agg #[.int .i64 VP, .bool gP, .slice pP lP cP, .int .i64 VQ, .bool gQ, .slice pQ lQ cQ, .int .i64 F], .agg #[.int .i64 24, .int .i64 (-149), .int .i64 104], .int .i64 mode] v fun e w' => e = .returned (.int .i64 R) ∧ Below v.heap.size v w') → ∀ w : World, Calls Tryd.prog 16 #[.int .u32 a, .int .i64 mode] w fun e w' => e = .returned (.int .u32 R) ∧ Below w.heap.size w w') → ∃ R : Int,
      (∀ w : World, Calls Tryd.prog 16 #[.int .u32 a, .int .i64 mode] w fun e w' => e = .returned (.int .u32 R) ∧ Below w.heap.size w w') ∧
      (∀ w : World, Forms w → Calls Tryd.prog 23 #[.int .u32 a, .int .i64 mode] w fun e w' => e = .returned (.int .u32 R) ∧ Below w.heap.size w w') := by
    intro t M r P F ht hM hr hP hF hs
    obtain ⟨R, r0, r1, hi, hsp⟩ := root_both S Z Rt k M r P E p mode F t hm.1 hm.2 (by omega) pbA.1 pbA.2 hR hZ hE z0 z1 ht hM hr hP hF
    exact ⟨R, fun w => s_of a mode R hm w (hs R r0 r1 hsp w), fun w G => i_num a mode 1 false hm a0 a1 hx hSA w G R E S p Rt _ hS hp hI hi ⟨rfl, rfl⟩⟩
  by_cases par : p % 2 = 0
  · obtain ⟨M, hM⟩ : ∃ M, S * 2 ^ 0 * 2 ^ 80 = M := ⟨_, rfl⟩
    obtain ⟨r, hr⟩ := exists_root M
    have tm : Int.tmod p 2 = 0 := by have := Int.mul_tdiv_add_tmod p 2; obtain ⟨q, rfl⟩ : ∃ q, p = 2 * q := ⟨p / 2, by omega⟩; rw [Int.mul_comm]; exact Int.mul_tmod_left _ _
    have td : Int.tdiv p 2 - 41 = (p - 82) / 2 := by
      obtain ⟨q, rfl⟩ : ∃ q, p = 2 * q := ⟨p / 2, by omega⟩
      rw [Int.mul_tdiv_cancel_left _ (by decide)]; omega
    have hMI : (S : Int) * 2 ^ 80 = (M : Int) := by omega
    have M0 : 0 < M := by omega
    have M1 : M < 100000000000000000000000000000000 := by omega
    by_cases hsq : r * r = M
    · exact fin 0 M r (2 * r) ((p - 82) / 2) (by omega) hM.symm hr (by rw [if_pos hsq, Nat.add_zero]) (by omega) (fun R r0 r1 hsp w => s_num0q a mode TA w S M r p ((p - 82) / 2) R (by omega) (by omega) pbA.1 pbA.2 tm td (by omega) (by omega) hMI M0 M1 hr hsq pA' r0 r1 hsp)
    · exact fin 0 M r (2 * r + 1) ((p - 82) / 2) (by omega) hM.symm hr (by rw [if_neg hsq]) (by omega) (fun R r0 r1 hsp w => s_num0n a mode TA w S M r p ((p - 82) / 2) R (by omega) (by omega) pbA.1 pbA.2 tm td (by omega) (by omega) hMI M0 M1 hr hsq pA' r0 r1 hsp)
  · obtain ⟨M, hM⟩ : ∃ M, S * 2 ^ 1 * 2 ^ 80 = M := ⟨_, rfl⟩
    obtain ⟨r, hr⟩ := exists_root M
    have tm : ¬ Int.tmod p 2 = 0 := by intro h; have := Int.mul_tdiv_add_tmod p 2; omega
    have td : Int.tdiv (p - 1) 2 - 41 = (p - 83) / 2 := by
      obtain ⟨q, hq⟩ : ∃ q, p - 1 = 2 * q := ⟨(p - 1) / 2, by omega⟩
      rw [hq, Int.mul_tdiv_cancel_left _ (by decide)]; omega
    have hMI : (S : Int) * 2 * 2 ^ 80 = (M : Int) := by omega
    have M0 : 0 < M := by omega
    have M1 : M < 100000000000000000000000000000000 := by omega
    by_cases hsq : r * r = M
    · exact fin 1 M r (2 * r) ((p - 83) / 2) (by omega) hM.symm hr (by rw [if_pos hsq, Nat.add_zero]) (by omega) (fun R r0 r1 hsp w => s_num1q a mode TA w S M r p ((p - 83) / 2) R (by omega) (by omega) pbA.1 pbA.2 tm td (by omega) (by omega) hMI M0 M1 hr hsq pA' r0 r1 hsp)
    · exact fin 1 M r (2 * r + 1) ((p - 83) / 2) (by omega) hM.symm hr (by rw [if_neg hsq]) (by omega) (fun R r0 r1 hsp w => s_num1n a mode TA w S M r p ((p - 83) / 2) R (by omega) (by omega) pbA.1 pbA.2 tm td (by omega) (by omega) hMI M0 M1 hr hsq pA' r0 r1 hsp)
end Go.Proofs.YtoloenkcfpfgcaaDoor.fnExactRootWord
namespace Go.Proofs.YtoloenkcfpfgcaaDoor
open Go.ChangeShapes Go.WideShapes Go.ChangeAt Go.RowKit
set_option linter.unusedVariables false
theorem wrap_w32 (a : Int) : -2147483648 ≤ wrap32 a ∧ wrap32 a ≤ 2147483647 ∧ wrap32 a % 4294967296 = a % 4294967296 := by
  unfold wrap32
  omega
set_option maxRecDepth 100000 in
set_option maxHeartbeats 4000000 in
theorem float_f (s : ByteArray) (es : s.toList = [102, 108, 111, 97, 116]) (d0 d1 d2 : Int) (p0 : 0 ≤ d0) (p1 : d0 < 4294967296) (q0 : 0 ≤ d1) (q1 : d1 < 4294967296) (r0 : 0 ≤ d2) (r1 : d2 < 4294967296) : ∃ R : Int, (∀ (w : World) (a n : Nat), n = 1 → w.cell? ⟨a, 0, none⟩ = some (.int .u32 d0) → (2 ≤ n → w.cell? ⟨a, 1, none⟩ = some (.int .u32 d1)) → (3 ≤ n → w.cell? ⟨a, 2, none⟩ = some (.int .u32 d2)) → Calls Tryd.prog 9 #[.string s, .bool true, .slice (some ⟨a, 0, none⟩) n n] w fun e w' => e = .returned (.int .u32 R) ∧ Below w.heap.size w w') ∧ (∀ w : World, Forms w → Calls Tryd.prog 12 #[.string s, .agg #[.int .u32 d0, .int .u32 d1, .int .u32 d2]] w fun e w' => e = .returned (.int .u32 R) ∧ Below w.heap.size w w') := by
  have f0 : (s.toList == [97, 98, 115]) = false := by rw [es]; rfl
  have f1 : (s.toList == [109, 105, 110]) = false := by rw [es]; rfl
  have f2 : (s.toList == [109, 97, 120]) = false := by rw [es]; rfl
  have f3 : (s.toList == [102, 109, 97]) = false := by rw [es]; rfl
  have f4 : (s.toList == [115, 113, 114, 116]) = false := by rw [es]; rfl
  have f5 : (s.toList == [102, 108, 111, 97, 116]) = true := by rw [es]; rfl
  have f6 : (s.toList == [105, 110, 116]) = false := by rw [es]; rfl
  clear es
  refine ⟨d0, fun w a n hn c0 c1 c2 => ?_, fun w G => ?_⟩
  · subst hn
    clear c1
    clear c2
    go_enter Tryd.func9, Tryd.ntmps9
    go_wp2
    go_ret
    exact ⟨rfl, Below.refl _ _⟩
  · have bx : Below w.heap.size w (w.alloc (.cells #[.int .u32 d0, .int .u32 d1, .int .u32 d2] 30)) := (Below.refl _ _).alloc (Nat.le_refl _) _
    have G1 := G.below bx
    go_enter Tryd.func12, Tryd.ntmps12
    go_wp2
    go_quiet (fail)
    go_wp2
    go_ret
    exact ⟨rfl, below_drewN bx _⟩
set_option maxRecDepth 100000 in
set_option maxHeartbeats 4000000 in
theorem int_w (s : ByteArray) (es : s.toList = [105, 110, 116]) (d0 d1 d2 : Int) (p0 : 0 ≤ d0) (p1 : d0 < 4294967296) (q0 : 0 ≤ d1) (q1 : d1 < 4294967296) (r0 : 0 ≤ d2) (r1 : d2 < 4294967296) : ∃ R : Int, (∀ (w : World) (a n : Nat), n = 1 → w.cell? ⟨a, 0, none⟩ = some (.int .u32 d0) → (2 ≤ n → w.cell? ⟨a, 1, none⟩ = some (.int .u32 d1)) → (3 ≤ n → w.cell? ⟨a, 2, none⟩ = some (.int .u32 d2)) → Calls Tryd.prog 9 #[.string s, .bool false, .slice (some ⟨a, 0, none⟩) n n] w fun e w' => e = .returned (.int .u32 R) ∧ Below w.heap.size w w') ∧ (∀ w : World, Forms w → Calls Tryd.prog 11 #[.string s, .agg #[.int .u32 d0, .int .u32 d1, .int .u32 d2]] w fun e w' => e = .returned (.int .u32 R) ∧ Below w.heap.size w w') := by
  have f0 : (s.toList == [97, 98, 115]) = false := by rw [es]; rfl
  have f1 : (s.toList == [109, 105, 110]) = false := by rw [es]; rfl
  have f2 : (s.toList == [109, 97, 120]) = false := by rw [es]; rfl
  have f3 : (s.toList == [102, 109, 97]) = false := by rw [es]; rfl
  have f4 : (s.toList == [115, 113, 114, 116]) = false := by rw [es]; rfl
  have f5 : (s.toList == [102, 108, 111, 97, 116]) = false := by rw [es]; rfl
  have f6 : (s.toList == [105, 110, 116]) = true := by rw [es]; rfl
  clear es
  refine ⟨d0, fun w a n hn c0 c1 c2 => ?_, fun w G => ?_⟩
  · subst hn
    clear c1
    clear c2
    go_enter Tryd.func9, Tryd.ntmps9
    go_wp2
    go_ret
    exact ⟨rfl, Below.refl _ _⟩
  · have bx : Below w.heap.size w (w.alloc (.cells #[.int .u32 d0, .int .u32 d1, .int .u32 d2] 30)) := (Below.refl _ _).alloc (Nat.le_refl _) _
    have G1 := G.below bx
    go_enter Tryd.func11, Tryd.ntmps11
    go_wp2
    go_quiet (fail)
    go_wp2
    go_ret
    exact ⟨rfl, below_drewN bx _⟩
set_option maxRecDepth 100000 in
set_option maxHeartbeats 4000000 in
theorem sqrt_w (s : ByteArray) (es : s.toList = [115, 113, 114, 116]) (d0 d1 d2 : Int) (p0 : 0 ≤ d0) (p1 : d0 < 4294967296) (q0 : 0 ≤ d1) (q1 : d1 < 4294967296) (r0 : 0 ≤ d2) (r1 : d2 < 4294967296) : ∃ R : Int, (∀ (w : World) (a n : Nat), n = 1 → w.cell? ⟨a, 0, none⟩ = some (.int .u32 d0) → (2 ≤ n → w.cell? ⟨a, 1, none⟩ = some (.int .u32 d1)) → (3 ≤ n → w.cell? ⟨a, 2, none⟩ = some (.int .u32 d2)) → Calls Tryd.prog 9 #[.string s, .bool false, .slice (some ⟨a, 0, none⟩) n n] w fun e w' => e = .returned (.int .u32 R) ∧ Below w.heap.size w w') ∧ (∀ w : World, Forms w → Calls Tryd.prog 11 #[.string s, .agg #[.int .u32 d0, .int .u32 d1, .int .u32 d2]] w fun e w' => e = .returned (.int .u32 R) ∧ Below w.heap.size w w') := by
  have f0 : (s.toList == [97, 98, 115]) = false := by rw [es]; rfl
  have f1 : (s.toList == [109, 105, 110]) = false := by rw [es]; rfl
  have f2 : (s.toList == [109, 97, 120]) = false := by rw [es]; rfl
  have f3 : (s.toList == [102, 109, 97]) = false := by rw [es]; rfl
  have f4 : (s.toList == [115, 113, 114, 116]) = true := by rw [es]; rfl
  have f5 : (s.toList == [102, 108, 111, 97, 116]) = false := by rw [es]; rfl
  have f6 : (s.toList == [105, 110, 116]) = false := by rw [es]; rfl
  clear es
  refine ⟨0, fun w a n hn c0 c1 c2 => ?_, fun w G => ?_⟩
  · subst hn
    clear c1
    clear c2
    go_enter Tryd.func9, Tryd.ntmps9
    go_wp2
    go_ret
    exact ⟨rfl, Below.refl _ _⟩
  · have bx : Below w.heap.size w (w.alloc (.cells #[.int .u32 d0, .int .u32 d1, .int .u32 d2] 30)) := (Below.refl _ _).alloc (Nat.le_refl _) _
    have G1 := G.below bx
    go_enter Tryd.func11, Tryd.ntmps11
    go_wp2
    go_quiet (fail)
    go_wp2
    go_ret
    exact ⟨rfl, below_drewN bx _⟩
set_option maxRecDepth 100000 in
set_option maxHeartbeats 4000000 in
theorem fma_w (s : ByteArray) (es : s.toList = [102, 109, 97]) (d0 d1 d2 : Int) (p0 : 0 ≤ d0) (p1 : d0 < 4294967296) (q0 : 0 ≤ d1) (q1 : d1 < 4294967296) (r0 : 0 ≤ d2) (r1 : d2 < 4294967296) : ∃ R : Int, (∀ (w : World) (a n : Nat), n = 3 → w.cell? ⟨a, 0, none⟩ = some (.int .u32 d0) → (2 ≤ n → w.cell? ⟨a, 1, none⟩ = some (.int .u32 d1)) → (3 ≤ n → w.cell? ⟨a, 2, none⟩ = some (.int .u32 d2)) → Calls Tryd.prog 9 #[.string s, .bool false, .slice (some ⟨a, 0, none⟩) n n] w fun e w' => e = .returned (.int .u32 R) ∧ Below w.heap.size w w') ∧ (∀ w : World, Forms w → Calls Tryd.prog 11 #[.string s, .agg #[.int .u32 d0, .int .u32 d1, .int .u32 d2]] w fun e w' => e = .returned (.int .u32 R) ∧ Below w.heap.size w w') := by
  have f0 : (s.toList == [97, 98, 115]) = false := by rw [es]; rfl
  have f1 : (s.toList == [109, 105, 110]) = false := by rw [es]; rfl
  have f2 : (s.toList == [109, 97, 120]) = false := by rw [es]; rfl
  have f3 : (s.toList == [102, 109, 97]) = true := by rw [es]; rfl
  have f4 : (s.toList == [115, 113, 114, 116]) = false := by rw [es]; rfl
  have f5 : (s.toList == [102, 108, 111, 97, 116]) = false := by rw [es]; rfl
  have f6 : (s.toList == [105, 110, 116]) = false := by rw [es]; rfl
  clear es
  refine ⟨0, fun w a n hn c0 c1 c2 => ?_, fun w G => ?_⟩
  · subst hn
    have c1 := c1 (by omega)
    have c2 := c2 (by omega)
    go_enter Tryd.func9, Tryd.ntmps9
    go_wp2
    go_ret
    exact ⟨rfl, Below.refl _ _⟩
  · have bx : Below w.heap.size w (w.alloc (.cells #[.int .u32 d0, .int .u32 d1, .int .u32 d2] 30)) := (Below.refl _ _).alloc (Nat.le_refl _) _
    have G1 := G.below bx
    go_enter Tryd.func11, Tryd.ntmps11
    go_wp2
    go_quiet (fail)
    go_wp2
    go_ret
    exact ⟨rfl, below_drewN bx _⟩
set_option maxRecDepth 100000 in
set_option maxHeartbeats 4000000 in
theorem float_w (s : ByteArray) (es : s.toList = [102, 108, 111, 97, 116]) (d0 d1 d2 : Int) (p0 : 0 ≤ d0) (p1 : d0 < 4294967296) (q0 : 0 ≤ d1) (q1 : d1 < 4294967296) (r0 : 0 ≤ d2) (r1 : d2 < 4294967296) : ∃ R : Int, (∀ (w : World) (a n : Nat), n = 1 → w.cell? ⟨a, 0, none⟩ = some (.int .u32 d0) → (2 ≤ n → w.cell? ⟨a, 1, none⟩ = some (.int .u32 d1)) → (3 ≤ n → w.cell? ⟨a, 2, none⟩ = some (.int .u32 d2)) → Calls Tryd.prog 9 #[.string s, .bool false, .slice (some ⟨a, 0, none⟩) n n] w fun e w' => e = .returned (.int .u32 R) ∧ Below w.heap.size w w') ∧ (∀ w : World, Forms w → Calls Tryd.prog 11 #[.string s, .agg #[.int .u32 d0, .int .u32 d1, .int .u32 d2]] w fun e w' => e = .returned (.int .u32 R) ∧ Below w.heap.size w w') := by
  have f0 : (s.toList == [97, 98, 115]) = false := by rw [es]; rfl
  have f1 : (s.toList == [109, 105, 110]) = false := by rw [es]; rfl
  have f2 : (s.toList == [109, 97, 120]) = false := by rw [es]; rfl
  have f3 : (s.toList == [102, 109, 97]) = false := by rw [es]; rfl
  have f4 : (s.toList == [115, 113, 114, 116]) = false := by rw [es]; rfl
  have f5 : (s.toList == [102, 108, 111, 97, 116]) = true := by rw [es]; rfl
  have f6 : (s.toList == [105, 110, 116]) = false := by rw [es]; rfl
  clear es
  obtain ⟨R, hs, hi⟩ := toF_both d0 p0 p1
  have HS : Hid (∀ w : World, Calls Tryd.prog 17 #[.int .u32 d0] w fun e w' => e = .returned (.int .u32 R) ∧ Below w.heap.size w w') := hs
  have HI : Hid (∀ w : World, Forms w → Calls Tryd.prog 19 #[.int .u32 d0] w fun e w' => e = .returned (.int .u32 R) ∧ Below w.heap.size w w') := hi
  clear hs hi
  refine ⟨R, fun w a n hn c0 c1 c2 => ?_, fun w G => ?_⟩
  · subst hn
    clear c1
    clear c2
    go_enter Tryd.func9, Tryd.ntmps9
    go_wp2_with (go_at_call 17; refine (HS.out _).mono ?_; rintro e w1 ⟨rfl, b1⟩)
    go_ret
    exact ⟨rfl, b1⟩
  · have bx : Below w.heap.size w (w.alloc (.cells #[.int .u32 d0, .int .u32 d1, .int .u32 d2] 30)) := (Below.refl _ _).alloc (Nat.le_refl _) _
    have G1 := G.below bx
    go_enter Tryd.func11, Tryd.ntmps11
    go_wp2
    go_quiet (fail)
    go_wp2_with (go_at_call 19; refine (HI.out _ (by first | exact G1 | exact G1.below (below_drewN (Below.refl _ _) _))).mono ?_; rintro e w1 ⟨rfl, b1⟩)
    go_ret
    exact ⟨rfl, (below_drewN bx _).trans (b1.mono (by simp))⟩
set_option maxRecDepth 100000 in
set_option maxHeartbeats 4000000 in
theorem int_f (s : ByteArray) (es : s.toList = [105, 110, 116]) (d0 d1 d2 : Int) (p0 : 0 ≤ d0) (p1 : d0 < 4294967296) (q0 : 0 ≤ d1) (q1 : d1 < 4294967296) (r0 : 0 ≤ d2) (r1 : d2 < 4294967296) : ∃ R : Int, (∀ (w : World) (a n : Nat), n = 1 → w.cell? ⟨a, 0, none⟩ = some (.int .u32 d0) → (2 ≤ n → w.cell? ⟨a, 1, none⟩ = some (.int .u32 d1)) → (3 ≤ n → w.cell? ⟨a, 2, none⟩ = some (.int .u32 d2)) → Calls Tryd.prog 9 #[.string s, .bool true, .slice (some ⟨a, 0, none⟩) n n] w fun e w' => e = .returned (.int .u32 R) ∧ Below w.heap.size w w') ∧ (∀ w : World, Forms w → Calls Tryd.prog 12 #[.string s, .agg #[.int .u32 d0, .int .u32 d1, .int .u32 d2]] w fun e w' => e = .returned (.int .u32 R) ∧ Below w.heap.size w w') := by
  have f0 : (s.toList == [97, 98, 115]) = false := by rw [es]; rfl
  have f1 : (s.toList == [109, 105, 110]) = false := by rw [es]; rfl
  have f2 : (s.toList == [109, 97, 120]) = false := by rw [es]; rfl
  have f3 : (s.toList == [102, 109, 97]) = false := by rw [es]; rfl
  have f4 : (s.toList == [115, 113, 114, 116]) = false := by rw [es]; rfl
  have f5 : (s.toList == [102, 108, 111, 97, 116]) = false := by rw [es]; rfl
  have f6 : (s.toList == [105, 110, 116]) = true := by rw [es]; rfl
  clear es
  obtain ⟨R, hs, hi⟩ := toW_both d0 p0 p1
  have HS : Hid (∀ w : World, Calls Tryd.prog 18 #[.int .u32 d0] w fun e w' => e = .returned (.int .u32 R) ∧ Below w.heap.size w w') := hs
  have HI : Hid (∀ w : World, Forms w → Calls Tryd.prog 24 #[.int .u32 d0] w fun e w' => e = .returned (.int .u32 R) ∧ Below w.heap.size w w') := hi
  clear hs hi
  refine ⟨R, fun w a n hn c0 c1 c2 => ?_, fun w G => ?_⟩
  · subst hn
    clear c1
    clear c2
    go_enter Tryd.func9, Tryd.ntmps9
    go_wp2_with (go_at_call 18; refine (HS.out _).mono ?_; rintro e w1 ⟨rfl, b1⟩)
    go_ret
    exact ⟨rfl, b1⟩
  · have bx : Below w.heap.size w (w.alloc (.cells #[.int .u32 d0, .int .u32 d1, .int .u32 d2] 30)) := (Below.refl _ _).alloc (Nat.le_refl _) _
    have G1 := G.below bx
    go_enter Tryd.func12, Tryd.ntmps12
    go_wp2
    go_quiet (fail)
    go_wp2_with (go_at_call 24; refine (HI.out _ (by first | exact G1 | exact G1.below (below_drewN (Below.refl _ _) _))).mono ?_; rintro e w1 ⟨rfl, b1⟩)
    go_ret
    exact ⟨rfl, (below_drewN bx _).trans (b1.mono (by simp))⟩
set_option maxRecDepth 100000 in
set_option maxHeartbeats 4000000 in
theorem sqrt_f (s : ByteArray) (es : s.toList = [115, 113, 114, 116]) (d0 d1 d2 : Int) (p0 : 0 ≤ d0) (p1 : d0 < 4294967296) (q0 : 0 ≤ d1) (q1 : d1 < 4294967296) (r0 : 0 ≤ d2) (r1 : d2 < 4294967296) : ∃ R : Int, (∀ (w : World) (a n : Nat), n = 1 → w.cell? ⟨a, 0, none⟩ = some (.int .u32 d0) → (2 ≤ n → w.cell? ⟨a, 1, none⟩ = some (.int .u32 d1)) → (3 ≤ n → w.cell? ⟨a, 2, none⟩ = some (.int .u32 d2)) → Calls Tryd.prog 9 #[.string s, .bool true, .slice (some ⟨a, 0, none⟩) n n] w fun e w' => e = .returned (.int .u32 R) ∧ Below w.heap.size w w') ∧ (∀ w : World, Forms w → Calls Tryd.prog 12 #[.string s, .agg #[.int .u32 d0, .int .u32 d1, .int .u32 d2]] w fun e w' => e = .returned (.int .u32 R) ∧ Below w.heap.size w w') := by
  have f0 : (s.toList == [97, 98, 115]) = false := by rw [es]; rfl
  have f1 : (s.toList == [109, 105, 110]) = false := by rw [es]; rfl
  have f2 : (s.toList == [109, 97, 120]) = false := by rw [es]; rfl
  have f3 : (s.toList == [102, 109, 97]) = false := by rw [es]; rfl
  have f4 : (s.toList == [115, 113, 114, 116]) = true := by rw [es]; rfl
  have f5 : (s.toList == [102, 108, 111, 97, 116]) = false := by rw [es]; rfl
  have f6 : (s.toList == [105, 110, 116]) = false := by rw [es]; rfl
  clear es
  obtain ⟨R, hs, hi⟩ := fnExactRootWord.both d0 0 p0 p1 (by omega)
  have HS : Hid (∀ w : World, Calls Tryd.prog 16 #[.int .u32 d0, .int .i64 0] w fun e w' => e = .returned (.int .u32 R) ∧ Below w.heap.size w w') := hs
  have HI : Hid (∀ w : World, Forms w → Calls Tryd.prog 23 #[.int .u32 d0, .int .i64 0] w fun e w' => e = .returned (.int .u32 R) ∧ Below w.heap.size w w') := hi
  clear hs hi
  refine ⟨R, fun w a n hn c0 c1 c2 => ?_, fun w G => ?_⟩
  · subst hn
    clear c1
    clear c2
    go_enter Tryd.func9, Tryd.ntmps9
    go_wp2_with (go_at_call 16; refine (HS.out _).mono ?_; rintro e w1 ⟨rfl, b1⟩)
    go_ret
    exact ⟨rfl, b1⟩
  · have bx : Below w.heap.size w (w.alloc (.cells #[.int .u32 d0, .int .u32 d1, .int .u32 d2] 30)) := (Below.refl _ _).alloc (Nat.le_refl _) _
    have G1 := G.below bx
    go_enter Tryd.func12, Tryd.ntmps12
    go_wp2
    go_quiet (fail)
    go_wp2_with (go_at_call 23; refine (HI.out _ (by first | exact G1 | exact G1.below (below_drewN (Below.refl _ _) _))).mono ?_; rintro e w1 ⟨rfl, b1⟩)
    go_ret
    exact ⟨rfl, (below_drewN bx _).trans (b1.mono (by simp))⟩
set_option maxRecDepth 100000 in
set_option maxHeartbeats 4000000 in
theorem abs_w_n (s : ByteArray) (es : s.toList = [97, 98, 115]) (d0 d1 d2 : Int) (p0 : 0 ≤ d0) (p1 : d0 < 4294967296) (q0 : 0 ≤ d1) (q1 : d1 < 4294967296) (r0 : 0 ≤ d2) (r1 : d2 < 4294967296) (h : 2147483648 ≤ d0) : ∃ R : Int, (∀ (w : World) (a n : Nat), n = 1 → w.cell? ⟨a, 0, none⟩ = some (.int .u32 d0) → (2 ≤ n → w.cell? ⟨a, 1, none⟩ = some (.int .u32 d1)) → (3 ≤ n → w.cell? ⟨a, 2, none⟩ = some (.int .u32 d2)) → Calls Tryd.prog 9 #[.string s, .bool false, .slice (some ⟨a, 0, none⟩) n n] w fun e w' => e = .returned (.int .u32 R) ∧ Below w.heap.size w w') ∧ (∀ w : World, Forms w → Calls Tryd.prog 11 #[.string s, .agg #[.int .u32 d0, .int .u32 d1, .int .u32 d2]] w fun e w' => e = .returned (.int .u32 R) ∧ Below w.heap.size w w') := by
  have f0 : (s.toList == [97, 98, 115]) = true := by rw [es]; rfl
  have f1 : (s.toList == [109, 105, 110]) = false := by rw [es]; rfl
  have f2 : (s.toList == [109, 97, 120]) = false := by rw [es]; rfl
  have f3 : (s.toList == [102, 109, 97]) = false := by rw [es]; rfl
  have f4 : (s.toList == [115, 113, 114, 116]) = false := by rw [es]; rfl
  have f5 : (s.toList == [102, 108, 111, 97, 116]) = false := by rw [es]; rfl
  have f6 : (s.toList == [105, 110, 116]) = false := by rw [es]; rfl
  clear es
  have e2 : wrap32 d0 < 0 := by unfold wrap32; omega
  refine ⟨4294967296 - d0, fun w a n hn c0 c1 c2 => ?_, fun w G => ?_⟩
  · subst hn
    clear c1
    clear c2
    go_enter Tryd.func9, Tryd.ntmps9
    go_wp2
    all_goals
      go_ret
      refine ⟨?_, Below.refl _ _⟩
      first | rfl | ((show Ending.returned (Value.int .u32 _) = Ending.returned (Value.int .u32 _)); congr 2; first | omega | (unfold wrap32 at *; omega))
  · have bx : Below w.heap.size w (w.alloc (.cells #[.int .u32 d0, .int .u32 d1, .int .u32 d2] 30)) := (Below.refl _ _).alloc (Nat.le_refl _) _
    have G1 := G.below bx
    go_enter Tryd.func11, Tryd.ntmps11
    go_wp2
    go_quiet (fail)
    go_wp2
    all_goals
      go_ret
      refine ⟨?_, below_drewN bx _⟩
      first | rfl | ((show Ending.returned (Value.int .u32 _) = Ending.returned (Value.int .u32 _)); congr 2; first | omega | (unfold wrap32 at *; omega))
set_option maxRecDepth 100000 in
set_option maxHeartbeats 4000000 in
theorem abs_w_p (s : ByteArray) (es : s.toList = [97, 98, 115]) (d0 d1 d2 : Int) (p0 : 0 ≤ d0) (p1 : d0 < 4294967296) (q0 : 0 ≤ d1) (q1 : d1 < 4294967296) (r0 : 0 ≤ d2) (r1 : d2 < 4294967296) (h : ¬ 2147483648 ≤ d0) : ∃ R : Int, (∀ (w : World) (a n : Nat), n = 1 → w.cell? ⟨a, 0, none⟩ = some (.int .u32 d0) → (2 ≤ n → w.cell? ⟨a, 1, none⟩ = some (.int .u32 d1)) → (3 ≤ n → w.cell? ⟨a, 2, none⟩ = some (.int .u32 d2)) → Calls Tryd.prog 9 #[.string s, .bool false, .slice (some ⟨a, 0, none⟩) n n] w fun e w' => e = .returned (.int .u32 R) ∧ Below w.heap.size w w') ∧ (∀ w : World, Forms w → Calls Tryd.prog 11 #[.string s, .agg #[.int .u32 d0, .int .u32 d1, .int .u32 d2]] w fun e w' => e = .returned (.int .u32 R) ∧ Below w.heap.size w w') := by
  have f0 : (s.toList == [97, 98, 115]) = true := by rw [es]; rfl
  have f1 : (s.toList == [109, 105, 110]) = false := by rw [es]; rfl
  have f2 : (s.toList == [109, 97, 120]) = false := by rw [es]; rfl
  have f3 : (s.toList == [102, 109, 97]) = false := by rw [es]; rfl
  have f4 : (s.toList == [115, 113, 114, 116]) = false := by rw [es]; rfl
  have f5 : (s.toList == [102, 108, 111, 97, 116]) = false := by rw [es]; rfl
  have f6 : (s.toList == [105, 110, 116]) = false := by rw [es]; rfl
  clear es
  have e2 : ¬ wrap32 d0 < 0 := by unfold wrap32; omega
  refine ⟨d0, fun w a n hn c0 c1 c2 => ?_, fun w G => ?_⟩
  · subst hn
    clear c1
    clear c2
    go_enter Tryd.func9, Tryd.ntmps9
    go_wp2
    all_goals
      go_ret
      refine ⟨?_, Below.refl _ _⟩
      first | rfl | ((show Ending.returned (Value.int .u32 _) = Ending.returned (Value.int .u32 _)); congr 2; first | omega | (unfold wrap32 at *; omega))
  · have bx : Below w.heap.size w (w.alloc (.cells #[.int .u32 d0, .int .u32 d1, .int .u32 d2] 30)) := (Below.refl _ _).alloc (Nat.le_refl _) _
    have G1 := G.below bx
    go_enter Tryd.func11, Tryd.ntmps11
    go_wp2
    go_quiet (fail)
    go_wp2
    all_goals
      go_ret
      refine ⟨?_, below_drewN bx _⟩
      first | rfl | ((show Ending.returned (Value.int .u32 _) = Ending.returned (Value.int .u32 _)); congr 2; first | omega | (unfold wrap32 at *; omega))
theorem abs_w (s : ByteArray) (es : s.toList = [97, 98, 115]) (d0 d1 d2 : Int) (p0 : 0 ≤ d0) (p1 : d0 < 4294967296) (q0 : 0 ≤ d1) (q1 : d1 < 4294967296) (r0 : 0 ≤ d2) (r1 : d2 < 4294967296) : ∃ R : Int, (∀ (w : World) (a n : Nat), n = 1 → w.cell? ⟨a, 0, none⟩ = some (.int .u32 d0) → (2 ≤ n → w.cell? ⟨a, 1, none⟩ = some (.int .u32 d1)) → (3 ≤ n → w.cell? ⟨a, 2, none⟩ = some (.int .u32 d2)) → Calls Tryd.prog 9 #[.string s, .bool false, .slice (some ⟨a, 0, none⟩) n n] w fun e w' => e = .returned (.int .u32 R) ∧ Below w.heap.size w w') ∧ (∀ w : World, Forms w → Calls Tryd.prog 11 #[.string s, .agg #[.int .u32 d0, .int .u32 d1, .int .u32 d2]] w fun e w' => e = .returned (.int .u32 R) ∧ Below w.heap.size w w') := by
  by_cases h : 2147483648 ≤ d0
  · exact abs_w_n s es d0 d1 d2 p0 p1 q0 q1 r0 r1 h
  · exact abs_w_p s es d0 d1 d2 p0 p1 q0 q1 r0 r1 h
set_option maxRecDepth 100000 in
set_option maxHeartbeats 4000000 in
theorem abs_f_n (s : ByteArray) (es : s.toList = [97, 98, 115]) (d0 d1 d2 : Int) (p0 : 0 ≤ d0) (p1 : d0 < 4294967296) (q0 : 0 ≤ d1) (q1 : d1 < 4294967296) (r0 : 0 ≤ d2) (r1 : d2 < 4294967296) (h : 2139095040 < d0 % 2147483648) : ∃ R : Int, (∀ (w : World) (a n : Nat), n = 1 → w.cell? ⟨a, 0, none⟩ = some (.int .u32 d0) → (2 ≤ n → w.cell? ⟨a, 1, none⟩ = some (.int .u32 d1)) → (3 ≤ n → w.cell? ⟨a, 2, none⟩ = some (.int .u32 d2)) → Calls Tryd.prog 9 #[.string s, .bool true, .slice (some ⟨a, 0, none⟩) n n] w fun e w' => e = .returned (.int .u32 R) ∧ Below w.heap.size w w') ∧ (∀ w : World, Forms w → Calls Tryd.prog 12 #[.string s, .agg #[.int .u32 d0, .int .u32 d1, .int .u32 d2]] w fun e w' => e = .returned (.int .u32 R) ∧ Below w.heap.size w w') := by
  have f0 : (s.toList == [97, 98, 115]) = true := by rw [es]; rfl
  have f1 : (s.toList == [109, 105, 110]) = false := by rw [es]; rfl
  have f2 : (s.toList == [109, 97, 120]) = false := by rw [es]; rfl
  have f3 : (s.toList == [102, 109, 97]) = false := by rw [es]; rfl
  have f4 : (s.toList == [115, 113, 114, 116]) = false := by rw [es]; rfl
  have f5 : (s.toList == [102, 108, 111, 97, 116]) = false := by rw [es]; rfl
  have f6 : (s.toList == [105, 110, 116]) = false := by rw [es]; rfl
  clear es
  have hn := sNaN_any d0 p0 p1
  rw [decide_eq_true h] at hn
  have hb := bit_low d0 p0 p1
  have hr := bit_rung d0 p0 p1
  have eN : nanOr d0 = 2143289344 := by unfold nanOr; rw [if_pos h]
  have H20 : Hid (∀ w : World, Forms w → Calls Tryd.prog 20 #[.int .u32 (d0 % 2147483648)] w fun e w' => e = .returned (.int .u32 (nanOr d0)) ∧ w' = w) := fun w G => oneNaN20 d0 p0 p1 w G
  rw [eN] at H20
  clear h eN
  refine ⟨2143289344, fun w a n hn c0 c1 c2 => ?_, fun w G => ?_⟩
  · subst hn
    clear c1
    clear c2
    go_enter Tryd.func9, Tryd.ntmps9
    go_wp2_with (go_at_call 13; refine (hn _).mono ?_; rintro e w1 ⟨rfl, hw1⟩; subst w1)
    go_ret
    exact ⟨rfl, Below.refl _ _⟩
  · have bx : Below w.heap.size w (w.alloc (.cells #[.int .u32 d0, .int .u32 d1, .int .u32 d2] 30)) := (Below.refl _ _).alloc (Nat.le_refl _) _
    have G1 := G.below bx
    go_enter Tryd.func12, Tryd.ntmps12
    go_wp2
    go_quiet (fail)
    have g2 := G1.c2
    go_wp2_with (go_at_call 20; refine (H20.out _ (by first | exact G1 | exact G1.below (below_drewN (Below.refl _ _) _))).mono ?_; rintro e w1 ⟨rfl, hw1⟩; subst w1)
    go_ret
    exact ⟨rfl, below_drewN bx _⟩
set_option maxRecDepth 100000 in
set_option maxHeartbeats 4000000 in
theorem abs_f_p (s : ByteArray) (es : s.toList = [97, 98, 115]) (d0 d1 d2 : Int) (p0 : 0 ≤ d0) (p1 : d0 < 4294967296) (q0 : 0 ≤ d1) (q1 : d1 < 4294967296) (r0 : 0 ≤ d2) (r1 : d2 < 4294967296) (h : ¬ 2139095040 < d0 % 2147483648) : ∃ R : Int, (∀ (w : World) (a n : Nat), n = 1 → w.cell? ⟨a, 0, none⟩ = some (.int .u32 d0) → (2 ≤ n → w.cell? ⟨a, 1, none⟩ = some (.int .u32 d1)) → (3 ≤ n → w.cell? ⟨a, 2, none⟩ = some (.int .u32 d2)) → Calls Tryd.prog 9 #[.string s, .bool true, .slice (some ⟨a, 0, none⟩) n n] w fun e w' => e = .returned (.int .u32 R) ∧ Below w.heap.size w w') ∧ (∀ w : World, Forms w → Calls Tryd.prog 12 #[.string s, .agg #[.int .u32 d0, .int .u32 d1, .int .u32 d2]] w fun e w' => e = .returned (.int .u32 R) ∧ Below w.heap.size w w') := by
  have f0 : (s.toList == [97, 98, 115]) = true := by rw [es]; rfl
  have f1 : (s.toList == [109, 105, 110]) = false := by rw [es]; rfl
  have f2 : (s.toList == [109, 97, 120]) = false := by rw [es]; rfl
  have f3 : (s.toList == [102, 109, 97]) = false := by rw [es]; rfl
  have f4 : (s.toList == [115, 113, 114, 116]) = false := by rw [es]; rfl
  have f5 : (s.toList == [102, 108, 111, 97, 116]) = false := by rw [es]; rfl
  have f6 : (s.toList == [105, 110, 116]) = false := by rw [es]; rfl
  clear es
  have hn := sNaN_any d0 p0 p1
  rw [decide_eq_false h] at hn
  have hb := bit_low d0 p0 p1
  have hr := bit_rung d0 p0 p1
  have eN : nanOr d0 = d0 % 2147483648 := by unfold nanOr; rw [if_neg h]
  have H20 : Hid (∀ w : World, Forms w → Calls Tryd.prog 20 #[.int .u32 (d0 % 2147483648)] w fun e w' => e = .returned (.int .u32 (nanOr d0)) ∧ w' = w) := fun w G => oneNaN20 d0 p0 p1 w G
  rw [eN] at H20
  clear h eN
  refine ⟨d0 % 2147483648, fun w a n hn c0 c1 c2 => ?_, fun w G => ?_⟩
  · subst hn
    clear c1
    clear c2
    go_enter Tryd.func9, Tryd.ntmps9
    go_wp2_with (go_at_call 13; refine (hn _).mono ?_; rintro e w1 ⟨rfl, hw1⟩; subst w1)
    go_ret
    exact ⟨rfl, Below.refl _ _⟩
  · have bx : Below w.heap.size w (w.alloc (.cells #[.int .u32 d0, .int .u32 d1, .int .u32 d2] 30)) := (Below.refl _ _).alloc (Nat.le_refl _) _
    have G1 := G.below bx
    go_enter Tryd.func12, Tryd.ntmps12
    go_wp2
    go_quiet (fail)
    have g2 := G1.c2
    go_wp2_with (go_at_call 20; refine (H20.out _ (by first | exact G1 | exact G1.below (below_drewN (Below.refl _ _) _))).mono ?_; rintro e w1 ⟨rfl, hw1⟩; subst w1)
    go_ret
    exact ⟨rfl, below_drewN bx _⟩
theorem abs_f (s : ByteArray) (es : s.toList = [97, 98, 115]) (d0 d1 d2 : Int) (p0 : 0 ≤ d0) (p1 : d0 < 4294967296) (q0 : 0 ≤ d1) (q1 : d1 < 4294967296) (r0 : 0 ≤ d2) (r1 : d2 < 4294967296) : ∃ R : Int, (∀ (w : World) (a n : Nat), n = 1 → w.cell? ⟨a, 0, none⟩ = some (.int .u32 d0) → (2 ≤ n → w.cell? ⟨a, 1, none⟩ = some (.int .u32 d1)) → (3 ≤ n → w.cell? ⟨a, 2, none⟩ = some (.int .u32 d2)) → Calls Tryd.prog 9 #[.string s, .bool true, .slice (some ⟨a, 0, none⟩) n n] w fun e w' => e = .returned (.int .u32 R) ∧ Below w.heap.size w w') ∧ (∀ w : World, Forms w → Calls Tryd.prog 12 #[.string s, .agg #[.int .u32 d0, .int .u32 d1, .int .u32 d2]] w fun e w' => e = .returned (.int .u32 R) ∧ Below w.heap.size w w') := by
  by_cases h : 2139095040 < d0 % 2147483648
  · exact abs_f_n s es d0 d1 d2 p0 p1 q0 q1 r0 r1 h
  · exact abs_f_p s es d0 d1 d2 p0 p1 q0 q1 r0 r1 h
set_option maxRecDepth 100000 in
set_option maxHeartbeats 4000000 in
theorem min_w_n (s : ByteArray) (es : s.toList = [109, 105, 110]) (d0 d1 d2 : Int) (p0 : 0 ≤ d0) (p1 : d0 < 4294967296) (q0 : 0 ≤ d1) (q1 : d1 < 4294967296) (r0 : 0 ≤ d2) (r1 : d2 < 4294967296) (h : wrap32 d1 < wrap32 d0) : ∃ R : Int, (∀ (w : World) (a n : Nat), n = 2 → w.cell? ⟨a, 0, none⟩ = some (.int .u32 d0) → (2 ≤ n → w.cell? ⟨a, 1, none⟩ = some (.int .u32 d1)) → (3 ≤ n → w.cell? ⟨a, 2, none⟩ = some (.int .u32 d2)) → Calls Tryd.prog 9 #[.string s, .bool false, .slice (some ⟨a, 0, none⟩) n n] w fun e w' => e = .returned (.int .u32 R) ∧ Below w.heap.size w w') ∧ (∀ w : World, Forms w → Calls Tryd.prog 11 #[.string s, .agg #[.int .u32 d0, .int .u32 d1, .int .u32 d2]] w fun e w' => e = .returned (.int .u32 R) ∧ Below w.heap.size w w') := by
  have f0 : (s.toList == [97, 98, 115]) = false := by rw [es]; rfl
  have f1 : (s.toList == [109, 105, 110]) = true := by rw [es]; rfl
  have f2 : (s.toList == [109, 97, 120]) = false := by rw [es]; rfl
  have f3 : (s.toList == [102, 109, 97]) = false := by rw [es]; rfl
  have f4 : (s.toList == [115, 113, 114, 116]) = false := by rw [es]; rfl
  have f5 : (s.toList == [102, 108, 111, 97, 116]) = false := by rw [es]; rfl
  have f6 : (s.toList == [105, 110, 116]) = false := by rw [es]; rfl
  clear es
  have e1 := wrap_w32 d0
  have e2 := wrap_w32 d1
  obtain ⟨y0, hy0⟩ : ∃ y, wrap32 d0 = y := ⟨_, rfl⟩
  obtain ⟨y1, hy1⟩ : ∃ y, wrap32 d1 = y := ⟨_, rfl⟩
  rw [hy0] at e1 h
  rw [hy1] at e2 h
  refine ⟨d1, fun w a n hn c0 c1 c2 => ?_, fun w G => ?_⟩
  · subst hn
    have c1 := c1 (by omega)
    clear c2
    go_enter Tryd.func9, Tryd.ntmps9
    go_wp2
    all_goals
      go_ret
      refine ⟨?_, Below.refl _ _⟩
      first | rfl | ((show Ending.returned (Value.int .u32 _) = Ending.returned (Value.int .u32 _)); congr 2; first | omega | (unfold wrap32 at *; omega))
  · have bx : Below w.heap.size w (w.alloc (.cells #[.int .u32 d0, .int .u32 d1, .int .u32 d2] 30)) := (Below.refl _ _).alloc (Nat.le_refl _) _
    have G1 := G.below bx
    go_enter Tryd.func11, Tryd.ntmps11
    go_wp2
    go_quiet (fail)
    go_wp2
    all_goals
      go_ret
      refine ⟨?_, below_drewN bx _⟩
      first | rfl | ((show Ending.returned (Value.int .u32 _) = Ending.returned (Value.int .u32 _)); congr 2; first | omega | (unfold wrap32 at *; omega))
set_option maxRecDepth 100000 in
set_option maxHeartbeats 4000000 in
theorem min_w_p (s : ByteArray) (es : s.toList = [109, 105, 110]) (d0 d1 d2 : Int) (p0 : 0 ≤ d0) (p1 : d0 < 4294967296) (q0 : 0 ≤ d1) (q1 : d1 < 4294967296) (r0 : 0 ≤ d2) (r1 : d2 < 4294967296) (h : ¬ wrap32 d1 < wrap32 d0) : ∃ R : Int, (∀ (w : World) (a n : Nat), n = 2 → w.cell? ⟨a, 0, none⟩ = some (.int .u32 d0) → (2 ≤ n → w.cell? ⟨a, 1, none⟩ = some (.int .u32 d1)) → (3 ≤ n → w.cell? ⟨a, 2, none⟩ = some (.int .u32 d2)) → Calls Tryd.prog 9 #[.string s, .bool false, .slice (some ⟨a, 0, none⟩) n n] w fun e w' => e = .returned (.int .u32 R) ∧ Below w.heap.size w w') ∧ (∀ w : World, Forms w → Calls Tryd.prog 11 #[.string s, .agg #[.int .u32 d0, .int .u32 d1, .int .u32 d2]] w fun e w' => e = .returned (.int .u32 R) ∧ Below w.heap.size w w') := by
  have f0 : (s.toList == [97, 98, 115]) = false := by rw [es]; rfl
  have f1 : (s.toList == [109, 105, 110]) = true := by rw [es]; rfl
  have f2 : (s.toList == [109, 97, 120]) = false := by rw [es]; rfl
  have f3 : (s.toList == [102, 109, 97]) = false := by rw [es]; rfl
  have f4 : (s.toList == [115, 113, 114, 116]) = false := by rw [es]; rfl
  have f5 : (s.toList == [102, 108, 111, 97, 116]) = false := by rw [es]; rfl
  have f6 : (s.toList == [105, 110, 116]) = false := by rw [es]; rfl
  clear es
  have e1 := wrap_w32 d0
  have e2 := wrap_w32 d1
  obtain ⟨y0, hy0⟩ : ∃ y, wrap32 d0 = y := ⟨_, rfl⟩
  obtain ⟨y1, hy1⟩ : ∃ y, wrap32 d1 = y := ⟨_, rfl⟩
  rw [hy0] at e1 h
  rw [hy1] at e2 h
  refine ⟨d0, fun w a n hn c0 c1 c2 => ?_, fun w G => ?_⟩
  · subst hn
    have c1 := c1 (by omega)
    clear c2
    go_enter Tryd.func9, Tryd.ntmps9
    go_wp2
    all_goals
      go_ret
      refine ⟨?_, Below.refl _ _⟩
      first | rfl | ((show Ending.returned (Value.int .u32 _) = Ending.returned (Value.int .u32 _)); congr 2; first | omega | (unfold wrap32 at *; omega))
  · have bx : Below w.heap.size w (w.alloc (.cells #[.int .u32 d0, .int .u32 d1, .int .u32 d2] 30)) := (Below.refl _ _).alloc (Nat.le_refl _) _
    have G1 := G.below bx
    go_enter Tryd.func11, Tryd.ntmps11
    go_wp2
    go_quiet (fail)
    go_wp2
    all_goals
      go_ret
      refine ⟨?_, below_drewN bx _⟩
      first | rfl | ((show Ending.returned (Value.int .u32 _) = Ending.returned (Value.int .u32 _)); congr 2; first | omega | (unfold wrap32 at *; omega))
theorem min_w (s : ByteArray) (es : s.toList = [109, 105, 110]) (d0 d1 d2 : Int) (p0 : 0 ≤ d0) (p1 : d0 < 4294967296) (q0 : 0 ≤ d1) (q1 : d1 < 4294967296) (r0 : 0 ≤ d2) (r1 : d2 < 4294967296) : ∃ R : Int, (∀ (w : World) (a n : Nat), n = 2 → w.cell? ⟨a, 0, none⟩ = some (.int .u32 d0) → (2 ≤ n → w.cell? ⟨a, 1, none⟩ = some (.int .u32 d1)) → (3 ≤ n → w.cell? ⟨a, 2, none⟩ = some (.int .u32 d2)) → Calls Tryd.prog 9 #[.string s, .bool false, .slice (some ⟨a, 0, none⟩) n n] w fun e w' => e = .returned (.int .u32 R) ∧ Below w.heap.size w w') ∧ (∀ w : World, Forms w → Calls Tryd.prog 11 #[.string s, .agg #[.int .u32 d0, .int .u32 d1, .int .u32 d2]] w fun e w' => e = .returned (.int .u32 R) ∧ Below w.heap.size w w') := by
  by_cases h : wrap32 d1 < wrap32 d0
  · exact min_w_n s es d0 d1 d2 p0 p1 q0 q1 r0 r1 h
  · exact min_w_p s es d0 d1 d2 p0 p1 q0 q1 r0 r1 h
set_option maxRecDepth 100000 in
set_option maxHeartbeats 4000000 in
theorem max_w_n (s : ByteArray) (es : s.toList = [109, 97, 120]) (d0 d1 d2 : Int) (p0 : 0 ≤ d0) (p1 : d0 < 4294967296) (q0 : 0 ≤ d1) (q1 : d1 < 4294967296) (r0 : 0 ≤ d2) (r1 : d2 < 4294967296) (h : wrap32 d0 < wrap32 d1) : ∃ R : Int, (∀ (w : World) (a n : Nat), n = 2 → w.cell? ⟨a, 0, none⟩ = some (.int .u32 d0) → (2 ≤ n → w.cell? ⟨a, 1, none⟩ = some (.int .u32 d1)) → (3 ≤ n → w.cell? ⟨a, 2, none⟩ = some (.int .u32 d2)) → Calls Tryd.prog 9 #[.string s, .bool false, .slice (some ⟨a, 0, none⟩) n n] w fun e w' => e = .returned (.int .u32 R) ∧ Below w.heap.size w w') ∧ (∀ w : World, Forms w → Calls Tryd.prog 11 #[.string s, .agg #[.int .u32 d0, .int .u32 d1, .int .u32 d2]] w fun e w' => e = .returned (.int .u32 R) ∧ Below w.heap.size w w') := by
  have f0 : (s.toList == [97, 98, 115]) = false := by rw [es]; rfl
  have f1 : (s.toList == [109, 105, 110]) = false := by rw [es]; rfl
  have f2 : (s.toList == [109, 97, 120]) = true := by rw [es]; rfl
  have f3 : (s.toList == [102, 109, 97]) = false := by rw [es]; rfl
  have f4 : (s.toList == [115, 113, 114, 116]) = false := by rw [es]; rfl
  have f5 : (s.toList == [102, 108, 111, 97, 116]) = false := by rw [es]; rfl
  have f6 : (s.toList == [105, 110, 116]) = false := by rw [es]; rfl
  clear es
  have e1 := wrap_w32 d0
  have e2 := wrap_w32 d1
  obtain ⟨y0, hy0⟩ : ∃ y, wrap32 d0 = y := ⟨_, rfl⟩
  obtain ⟨y1, hy1⟩ : ∃ y, wrap32 d1 = y := ⟨_, rfl⟩
  rw [hy0] at e1 h
  rw [hy1] at e2 h
  refine ⟨d1, fun w a n hn c0 c1 c2 => ?_, fun w G => ?_⟩
  · subst hn
    have c1 := c1 (by omega)
    clear c2
    go_enter Tryd.func9, Tryd.ntmps9
    go_wp2
    all_goals
      go_ret
      refine ⟨?_, Below.refl _ _⟩
      first | rfl | ((show Ending.returned (Value.int .u32 _) = Ending.returned (Value.int .u32 _)); congr 2; first | omega | (unfold wrap32 at *; omega))
  · have bx : Below w.heap.size w (w.alloc (.cells #[.int .u32 d0, .int .u32 d1, .int .u32 d2] 30)) := (Below.refl _ _).alloc (Nat.le_refl _) _
    have G1 := G.below bx
    go_enter Tryd.func11, Tryd.ntmps11
    go_wp2
    go_quiet (fail)
    go_wp2
    all_goals
      go_ret
      refine ⟨?_, below_drewN bx _⟩
      first | rfl | ((show Ending.returned (Value.int .u32 _) = Ending.returned (Value.int .u32 _)); congr 2; first | omega | (unfold wrap32 at *; omega))
set_option maxRecDepth 100000 in
set_option maxHeartbeats 4000000 in
theorem max_w_p (s : ByteArray) (es : s.toList = [109, 97, 120]) (d0 d1 d2 : Int) (p0 : 0 ≤ d0) (p1 : d0 < 4294967296) (q0 : 0 ≤ d1) (q1 : d1 < 4294967296) (r0 : 0 ≤ d2) (r1 : d2 < 4294967296) (h : ¬ wrap32 d0 < wrap32 d1) : ∃ R : Int, (∀ (w : World) (a n : Nat), n = 2 → w.cell? ⟨a, 0, none⟩ = some (.int .u32 d0) → (2 ≤ n → w.cell? ⟨a, 1, none⟩ = some (.int .u32 d1)) → (3 ≤ n → w.cell? ⟨a, 2, none⟩ = some (.int .u32 d2)) → Calls Tryd.prog 9 #[.string s, .bool false, .slice (some ⟨a, 0, none⟩) n n] w fun e w' => e = .returned (.int .u32 R) ∧ Below w.heap.size w w') ∧ (∀ w : World, Forms w → Calls Tryd.prog 11 #[.string s, .agg #[.int .u32 d0, .int .u32 d1, .int .u32 d2]] w fun e w' => e = .returned (.int .u32 R) ∧ Below w.heap.size w w') := by
  have f0 : (s.toList == [97, 98, 115]) = false := by rw [es]; rfl
  have f1 : (s.toList == [109, 105, 110]) = false := by rw [es]; rfl
  have f2 : (s.toList == [109, 97, 120]) = true := by rw [es]; rfl
  have f3 : (s.toList == [102, 109, 97]) = false := by rw [es]; rfl
  have f4 : (s.toList == [115, 113, 114, 116]) = false := by rw [es]; rfl
  have f5 : (s.toList == [102, 108, 111, 97, 116]) = false := by rw [es]; rfl
  have f6 : (s.toList == [105, 110, 116]) = false := by rw [es]; rfl
  clear es
  have e1 := wrap_w32 d0
  have e2 := wrap_w32 d1
  obtain ⟨y0, hy0⟩ : ∃ y, wrap32 d0 = y := ⟨_, rfl⟩
  obtain ⟨y1, hy1⟩ : ∃ y, wrap32 d1 = y := ⟨_, rfl⟩
  rw [hy0] at e1 h
  rw [hy1] at e2 h
  refine ⟨d0, fun w a n hn c0 c1 c2 => ?_, fun w G => ?_⟩
  · subst hn
    have c1 := c1 (by omega)
    clear c2
    go_enter Tryd.func9, Tryd.ntmps9
    go_wp2
    all_goals
      go_ret
      refine ⟨?_, Below.refl _ _⟩
      first | rfl | ((show Ending.returned (Value.int .u32 _) = Ending.returned (Value.int .u32 _)); congr 2; first | omega | (unfold wrap32 at *; omega))
  · have bx : Below w.heap.size w (w.alloc (.cells #[.int .u32 d0, .int .u32 d1, .int .u32 d2] 30)) := (Below.refl _ _).alloc (Nat.le_refl _) _
    have G1 := G.below bx
    go_enter Tryd.func11, Tryd.ntmps11
    go_wp2
    go_quiet (fail)
    go_wp2
    all_goals
      go_ret
      refine ⟨?_, below_drewN bx _⟩
      first | rfl | ((show Ending.returned (Value.int .u32 _) = Ending.returned (Value.int .u32 _)); congr 2; first | omega | (unfold wrap32 at *; omega))
theorem max_w (s : ByteArray) (es : s.toList = [109, 97, 120]) (d0 d1 d2 : Int) (p0 : 0 ≤ d0) (p1 : d0 < 4294967296) (q0 : 0 ≤ d1) (q1 : d1 < 4294967296) (r0 : 0 ≤ d2) (r1 : d2 < 4294967296) : ∃ R : Int, (∀ (w : World) (a n : Nat), n = 2 → w.cell? ⟨a, 0, none⟩ = some (.int .u32 d0) → (2 ≤ n → w.cell? ⟨a, 1, none⟩ = some (.int .u32 d1)) → (3 ≤ n → w.cell? ⟨a, 2, none⟩ = some (.int .u32 d2)) → Calls Tryd.prog 9 #[.string s, .bool false, .slice (some ⟨a, 0, none⟩) n n] w fun e w' => e = .returned (.int .u32 R) ∧ Below w.heap.size w w') ∧ (∀ w : World, Forms w → Calls Tryd.prog 11 #[.string s, .agg #[.int .u32 d0, .int .u32 d1, .int .u32 d2]] w fun e w' => e = .returned (.int .u32 R) ∧ Below w.heap.size w w') := by
  by_cases h : wrap32 d0 < wrap32 d1
  · exact max_w_n s es d0 d1 d2 p0 p1 q0 q1 r0 r1 h
  · exact max_w_p s es d0 d1 d2 p0 p1 q0 q1 r0 r1 h
set_option maxRecDepth 100000 in
set_option maxHeartbeats 4000000 in
theorem min_f_a (s : ByteArray) (es : s.toList = [109, 105, 110]) (d0 d1 d2 : Int) (p0 : 0 ≤ d0) (p1 : d0 < 4294967296) (q0 : 0 ≤ d1) (q1 : d1 < 4294967296) (r0 : 0 ≤ d2) (r1 : d2 < 4294967296) (h : 2139095040 < d0 % 2147483648) : ∃ R : Int, (∀ (w : World) (a n : Nat), n = 2 → w.cell? ⟨a, 0, none⟩ = some (.int .u32 d0) → (2 ≤ n → w.cell? ⟨a, 1, none⟩ = some (.int .u32 d1)) → (3 ≤ n → w.cell? ⟨a, 2, none⟩ = some (.int .u32 d2)) → Calls Tryd.prog 9 #[.string s, .bool true, .slice (some ⟨a, 0, none⟩) n n] w fun e w' => e = .returned (.int .u32 R) ∧ Below w.heap.size w w') ∧ (∀ w : World, Forms w → Calls Tryd.prog 12 #[.string s, .agg #[.int .u32 d0, .int .u32 d1, .int .u32 d2]] w fun e w' => e = .returned (.int .u32 R) ∧ Below w.heap.size w w') := by
  have f0 : (s.toList == [97, 98, 115]) = false := by rw [es]; rfl
  have f1 : (s.toList == [109, 105, 110]) = true := by rw [es]; rfl
  have f2 : (s.toList == [109, 97, 120]) = false := by rw [es]; rfl
  have f3 : (s.toList == [102, 109, 97]) = false := by rw [es]; rfl
  have f4 : (s.toList == [115, 113, 114, 116]) = false := by rw [es]; rfl
  have f5 : (s.toList == [102, 108, 111, 97, 116]) = false := by rw [es]; rfl
  have f6 : (s.toList == [105, 110, 116]) = false := by rw [es]; rfl
  clear es
  have hn0 := sNaN_any d0 p0 p1
  have hn1 := sNaN_any d1 q0 q1
  have eC : Cm.cmpI d1 d0 = 2 := by
    unfold Cm.cmpI; rw [if_pos (by omega)]
  rw [decide_eq_true (by omega)] at hn0
  have H14 : Hid (∀ w : World, Calls Tryd.prog 14 #[.int .u32 d1, .int .u32 d0] w fun e w' => e = .returned (.int .i64 (2)) ∧ w' = w) := fun w => by
    have h := sCmp14 d1 d0 q0 q1 p0 p1 w
    rw [eC] at h
    exact h
  have H21 : Hid (∀ w : World, Calls Tryd.prog 21 #[.int .u32 d0, .int .u32 d1, .int .i64 (-1)] w fun e w' => e = .returned (.int .u32 (2143289344)) ∧ w' = w) := fun w => by
    have h := chosen21 d0 d1 (-1) p0 p1 q0 q1 w
    rw [eC] at h
    exact h
  clear eC h
  refine ⟨2143289344, fun w a n hn c0 c1 c2 => ?_, fun w G => ?_⟩
  · subst hn
    have c1 := c1 (by omega)
    clear c2
    go_enter Tryd.func9, Tryd.ntmps9
    go_wp2_with (first | (go_at_call 13; (with_reducible show Calls Tryd.prog 13 #[.int .u32 d0] _ _); refine (hn0 _).mono ?_; rintro e w1 ⟨rfl, hw1⟩; subst w1) | (go_at_call 13; (with_reducible show Calls Tryd.prog 13 #[.int .u32 d1] _ _); refine (hn1 _).mono ?_; rintro e w1 ⟨rfl, hw1⟩; subst w1) | (go_at_call 14; refine (H14.out _).mono ?_; rintro e w1 ⟨rfl, hw1⟩; subst w1))
    go_ret
    exact ⟨rfl, Below.refl _ _⟩
  · have bx : Below w.heap.size w (w.alloc (.cells #[.int .u32 d0, .int .u32 d1, .int .u32 d2] 30)) := (Below.refl _ _).alloc (Nat.le_refl _) _
    have G1 := G.below bx
    go_enter Tryd.func12, Tryd.ntmps12
    go_wp2
    go_quiet (fail)
    go_wp2_with (go_at_call 21; refine (H21.out _).mono ?_; rintro e w1 ⟨rfl, hw1⟩; subst w1)
    go_ret
    exact ⟨rfl, below_drewN bx _⟩
set_option maxRecDepth 100000 in
set_option maxHeartbeats 4000000 in
theorem min_f_b (s : ByteArray) (es : s.toList = [109, 105, 110]) (d0 d1 d2 : Int) (p0 : 0 ≤ d0) (p1 : d0 < 4294967296) (q0 : 0 ≤ d1) (q1 : d1 < 4294967296) (r0 : 0 ≤ d2) (r1 : d2 < 4294967296) (h : ¬ 2139095040 < d0 % 2147483648 ∧ 2139095040 < d1 % 2147483648) : ∃ R : Int, (∀ (w : World) (a n : Nat), n = 2 → w.cell? ⟨a, 0, none⟩ = some (.int .u32 d0) → (2 ≤ n → w.cell? ⟨a, 1, none⟩ = some (.int .u32 d1)) → (3 ≤ n → w.cell? ⟨a, 2, none⟩ = some (.int .u32 d2)) → Calls Tryd.prog 9 #[.string s, .bool true, .slice (some ⟨a, 0, none⟩) n n] w fun e w' => e = .returned (.int .u32 R) ∧ Below w.heap.size w w') ∧ (∀ w : World, Forms w → Calls Tryd.prog 12 #[.string s, .agg #[.int .u32 d0, .int .u32 d1, .int .u32 d2]] w fun e w' => e = .returned (.int .u32 R) ∧ Below w.heap.size w w') := by
  have f0 : (s.toList == [97, 98, 115]) = false := by rw [es]; rfl
  have f1 : (s.toList == [109, 105, 110]) = true := by rw [es]; rfl
  have f2 : (s.toList == [109, 97, 120]) = false := by rw [es]; rfl
  have f3 : (s.toList == [102, 109, 97]) = false := by rw [es]; rfl
  have f4 : (s.toList == [115, 113, 114, 116]) = false := by rw [es]; rfl
  have f5 : (s.toList == [102, 108, 111, 97, 116]) = false := by rw [es]; rfl
  have f6 : (s.toList == [105, 110, 116]) = false := by rw [es]; rfl
  clear es
  have hn0 := sNaN_any d0 p0 p1
  have hn1 := sNaN_any d1 q0 q1
  have eC : Cm.cmpI d1 d0 = 2 := by
    unfold Cm.cmpI; rw [if_pos (by omega)]
  rw [decide_eq_false (by omega)] at hn0
  rw [decide_eq_true (by omega)] at hn1
  have H14 : Hid (∀ w : World, Calls Tryd.prog 14 #[.int .u32 d1, .int .u32 d0] w fun e w' => e = .returned (.int .i64 (2)) ∧ w' = w) := fun w => by
    have h := sCmp14 d1 d0 q0 q1 p0 p1 w
    rw [eC] at h
    exact h
  have H21 : Hid (∀ w : World, Calls Tryd.prog 21 #[.int .u32 d0, .int .u32 d1, .int .i64 (-1)] w fun e w' => e = .returned (.int .u32 (2143289344)) ∧ w' = w) := fun w => by
    have h := chosen21 d0 d1 (-1) p0 p1 q0 q1 w
    rw [eC] at h
    exact h
  clear eC h
  refine ⟨2143289344, fun w a n hn c0 c1 c2 => ?_, fun w G => ?_⟩
  · subst hn
    have c1 := c1 (by omega)
    clear c2
    go_enter Tryd.func9, Tryd.ntmps9
    go_wp2_with (first | (go_at_call 13; (with_reducible show Calls Tryd.prog 13 #[.int .u32 d0] _ _); refine (hn0 _).mono ?_; rintro e w1 ⟨rfl, hw1⟩; subst w1) | (go_at_call 13; (with_reducible show Calls Tryd.prog 13 #[.int .u32 d1] _ _); refine (hn1 _).mono ?_; rintro e w1 ⟨rfl, hw1⟩; subst w1) | (go_at_call 14; refine (H14.out _).mono ?_; rintro e w1 ⟨rfl, hw1⟩; subst w1))
    go_ret
    exact ⟨rfl, Below.refl _ _⟩
  · have bx : Below w.heap.size w (w.alloc (.cells #[.int .u32 d0, .int .u32 d1, .int .u32 d2] 30)) := (Below.refl _ _).alloc (Nat.le_refl _) _
    have G1 := G.below bx
    go_enter Tryd.func12, Tryd.ntmps12
    go_wp2
    go_quiet (fail)
    go_wp2_with (go_at_call 21; refine (H21.out _).mono ?_; rintro e w1 ⟨rfl, hw1⟩; subst w1)
    go_ret
    exact ⟨rfl, below_drewN bx _⟩
set_option maxRecDepth 100000 in
set_option maxHeartbeats 4000000 in
theorem min_f_c (s : ByteArray) (es : s.toList = [109, 105, 110]) (d0 d1 d2 : Int) (p0 : 0 ≤ d0) (p1 : d0 < 4294967296) (q0 : 0 ≤ d1) (q1 : d1 < 4294967296) (r0 : 0 ≤ d2) (r1 : d2 < 4294967296) (h : ¬ 2139095040 < d0 % 2147483648 ∧ ¬ 2139095040 < d1 % 2147483648 ∧ Cm.cmpI d1 d0 = -1) : ∃ R : Int, (∀ (w : World) (a n : Nat), n = 2 → w.cell? ⟨a, 0, none⟩ = some (.int .u32 d0) → (2 ≤ n → w.cell? ⟨a, 1, none⟩ = some (.int .u32 d1)) → (3 ≤ n → w.cell? ⟨a, 2, none⟩ = some (.int .u32 d2)) → Calls Tryd.prog 9 #[.string s, .bool true, .slice (some ⟨a, 0, none⟩) n n] w fun e w' => e = .returned (.int .u32 R) ∧ Below w.heap.size w w') ∧ (∀ w : World, Forms w → Calls Tryd.prog 12 #[.string s, .agg #[.int .u32 d0, .int .u32 d1, .int .u32 d2]] w fun e w' => e = .returned (.int .u32 R) ∧ Below w.heap.size w w') := by
  have f0 : (s.toList == [97, 98, 115]) = false := by rw [es]; rfl
  have f1 : (s.toList == [109, 105, 110]) = true := by rw [es]; rfl
  have f2 : (s.toList == [109, 97, 120]) = false := by rw [es]; rfl
  have f3 : (s.toList == [102, 109, 97]) = false := by rw [es]; rfl
  have f4 : (s.toList == [115, 113, 114, 116]) = false := by rw [es]; rfl
  have f5 : (s.toList == [102, 108, 111, 97, 116]) = false := by rw [es]; rfl
  have f6 : (s.toList == [105, 110, 116]) = false := by rw [es]; rfl
  clear es
  have hn0 := sNaN_any d0 p0 p1
  have hn1 := sNaN_any d1 q0 q1
  have eC : Cm.cmpI d1 d0 = -1 := by
    exact h.2.2
  rw [decide_eq_false (by omega)] at hn0
  rw [decide_eq_false (by omega)] at hn1
  have H14 : Hid (∀ w : World, Calls Tryd.prog 14 #[.int .u32 d1, .int .u32 d0] w fun e w' => e = .returned (.int .i64 (-1)) ∧ w' = w) := fun w => by
    have h := sCmp14 d1 d0 q0 q1 p0 p1 w
    rw [eC] at h
    exact h
  have H21 : Hid (∀ w : World, Calls Tryd.prog 21 #[.int .u32 d0, .int .u32 d1, .int .i64 (-1)] w fun e w' => e = .returned (.int .u32 (d1)) ∧ w' = w) := fun w => by
    have h := chosen21 d0 d1 (-1) p0 p1 q0 q1 w
    rw [eC] at h
    exact h
  clear eC h
  refine ⟨d1, fun w a n hn c0 c1 c2 => ?_, fun w G => ?_⟩
  · subst hn
    have c1 := c1 (by omega)
    clear c2
    go_enter Tryd.func9, Tryd.ntmps9
    go_wp2_with (first | (go_at_call 13; (with_reducible show Calls Tryd.prog 13 #[.int .u32 d0] _ _); refine (hn0 _).mono ?_; rintro e w1 ⟨rfl, hw1⟩; subst w1) | (go_at_call 13; (with_reducible show Calls Tryd.prog 13 #[.int .u32 d1] _ _); refine (hn1 _).mono ?_; rintro e w1 ⟨rfl, hw1⟩; subst w1) | (go_at_call 14; refine (H14.out _).mono ?_; rintro e w1 ⟨rfl, hw1⟩; subst w1))
    go_ret
    exact ⟨rfl, Below.refl _ _⟩
  · have bx : Below w.heap.size w (w.alloc (.cells #[.int .u32 d0, .int .u32 d1, .int .u32 d2] 30)) := (Below.refl _ _).alloc (Nat.le_refl _) _
    have G1 := G.below bx
    go_enter Tryd.func12, Tryd.ntmps12
    go_wp2
    go_quiet (fail)
    go_wp2_with (go_at_call 21; refine (H21.out _).mono ?_; rintro e w1 ⟨rfl, hw1⟩; subst w1)
    go_ret
    exact ⟨rfl, below_drewN bx _⟩
set_option maxRecDepth 100000 in
set_option maxHeartbeats 4000000 in
theorem min_f_d (s : ByteArray) (es : s.toList = [109, 105, 110]) (d0 d1 d2 : Int) (p0 : 0 ≤ d0) (p1 : d0 < 4294967296) (q0 : 0 ≤ d1) (q1 : d1 < 4294967296) (r0 : 0 ≤ d2) (r1 : d2 < 4294967296) (h : ¬ 2139095040 < d0 % 2147483648 ∧ ¬ 2139095040 < d1 % 2147483648 ∧ Cm.cmpI d1 d0 = 0) : ∃ R : Int, (∀ (w : World) (a n : Nat), n = 2 → w.cell? ⟨a, 0, none⟩ = some (.int .u32 d0) → (2 ≤ n → w.cell? ⟨a, 1, none⟩ = some (.int .u32 d1)) → (3 ≤ n → w.cell? ⟨a, 2, none⟩ = some (.int .u32 d2)) → Calls Tryd.prog 9 #[.string s, .bool true, .slice (some ⟨a, 0, none⟩) n n] w fun e w' => e = .returned (.int .u32 R) ∧ Below w.heap.size w w') ∧ (∀ w : World, Forms w → Calls Tryd.prog 12 #[.string s, .agg #[.int .u32 d0, .int .u32 d1, .int .u32 d2]] w fun e w' => e = .returned (.int .u32 R) ∧ Below w.heap.size w w') := by
  have f0 : (s.toList == [97, 98, 115]) = false := by rw [es]; rfl
  have f1 : (s.toList == [109, 105, 110]) = true := by rw [es]; rfl
  have f2 : (s.toList == [109, 97, 120]) = false := by rw [es]; rfl
  have f3 : (s.toList == [102, 109, 97]) = false := by rw [es]; rfl
  have f4 : (s.toList == [115, 113, 114, 116]) = false := by rw [es]; rfl
  have f5 : (s.toList == [102, 108, 111, 97, 116]) = false := by rw [es]; rfl
  have f6 : (s.toList == [105, 110, 116]) = false := by rw [es]; rfl
  clear es
  have hn0 := sNaN_any d0 p0 p1
  have hn1 := sNaN_any d1 q0 q1
  have eC : Cm.cmpI d1 d0 = 0 := by
    exact h.2.2
  rw [decide_eq_false (by omega)] at hn0
  rw [decide_eq_false (by omega)] at hn1
  have H14 : Hid (∀ w : World, Calls Tryd.prog 14 #[.int .u32 d1, .int .u32 d0] w fun e w' => e = .returned (.int .i64 (0)) ∧ w' = w) := fun w => by
    have h := sCmp14 d1 d0 q0 q1 p0 p1 w
    rw [eC] at h
    exact h
  have H21 : Hid (∀ w : World, Calls Tryd.prog 21 #[.int .u32 d0, .int .u32 d1, .int .i64 (-1)] w fun e w' => e = .returned (.int .u32 (d0)) ∧ w' = w) := fun w => by
    have h := chosen21 d0 d1 (-1) p0 p1 q0 q1 w
    rw [eC] at h
    exact h
  clear eC h
  refine ⟨d0, fun w a n hn c0 c1 c2 => ?_, fun w G => ?_⟩
  · subst hn
    have c1 := c1 (by omega)
    clear c2
    go_enter Tryd.func9, Tryd.ntmps9
    go_wp2_with (first | (go_at_call 13; (with_reducible show Calls Tryd.prog 13 #[.int .u32 d0] _ _); refine (hn0 _).mono ?_; rintro e w1 ⟨rfl, hw1⟩; subst w1) | (go_at_call 13; (with_reducible show Calls Tryd.prog 13 #[.int .u32 d1] _ _); refine (hn1 _).mono ?_; rintro e w1 ⟨rfl, hw1⟩; subst w1) | (go_at_call 14; refine (H14.out _).mono ?_; rintro e w1 ⟨rfl, hw1⟩; subst w1))
    go_ret
    exact ⟨rfl, Below.refl _ _⟩
  · have bx : Below w.heap.size w (w.alloc (.cells #[.int .u32 d0, .int .u32 d1, .int .u32 d2] 30)) := (Below.refl _ _).alloc (Nat.le_refl _) _
    have G1 := G.below bx
    go_enter Tryd.func12, Tryd.ntmps12
    go_wp2
    go_quiet (fail)
    go_wp2_with (go_at_call 21; refine (H21.out _).mono ?_; rintro e w1 ⟨rfl, hw1⟩; subst w1)
    go_ret
    exact ⟨rfl, below_drewN bx _⟩
set_option maxRecDepth 100000 in
set_option maxHeartbeats 4000000 in
theorem min_f_e (s : ByteArray) (es : s.toList = [109, 105, 110]) (d0 d1 d2 : Int) (p0 : 0 ≤ d0) (p1 : d0 < 4294967296) (q0 : 0 ≤ d1) (q1 : d1 < 4294967296) (r0 : 0 ≤ d2) (r1 : d2 < 4294967296) (h : ¬ 2139095040 < d0 % 2147483648 ∧ ¬ 2139095040 < d1 % 2147483648 ∧ Cm.cmpI d1 d0 = 1) : ∃ R : Int, (∀ (w : World) (a n : Nat), n = 2 → w.cell? ⟨a, 0, none⟩ = some (.int .u32 d0) → (2 ≤ n → w.cell? ⟨a, 1, none⟩ = some (.int .u32 d1)) → (3 ≤ n → w.cell? ⟨a, 2, none⟩ = some (.int .u32 d2)) → Calls Tryd.prog 9 #[.string s, .bool true, .slice (some ⟨a, 0, none⟩) n n] w fun e w' => e = .returned (.int .u32 R) ∧ Below w.heap.size w w') ∧ (∀ w : World, Forms w → Calls Tryd.prog 12 #[.string s, .agg #[.int .u32 d0, .int .u32 d1, .int .u32 d2]] w fun e w' => e = .returned (.int .u32 R) ∧ Below w.heap.size w w') := by
  have f0 : (s.toList == [97, 98, 115]) = false := by rw [es]; rfl
  have f1 : (s.toList == [109, 105, 110]) = true := by rw [es]; rfl
  have f2 : (s.toList == [109, 97, 120]) = false := by rw [es]; rfl
  have f3 : (s.toList == [102, 109, 97]) = false := by rw [es]; rfl
  have f4 : (s.toList == [115, 113, 114, 116]) = false := by rw [es]; rfl
  have f5 : (s.toList == [102, 108, 111, 97, 116]) = false := by rw [es]; rfl
  have f6 : (s.toList == [105, 110, 116]) = false := by rw [es]; rfl
  clear es
  have hn0 := sNaN_any d0 p0 p1
  have hn1 := sNaN_any d1 q0 q1
  have eC : Cm.cmpI d1 d0 = 1 := by
    exact h.2.2
  rw [decide_eq_false (by omega)] at hn0
  rw [decide_eq_false (by omega)] at hn1
  have H14 : Hid (∀ w : World, Calls Tryd.prog 14 #[.int .u32 d1, .int .u32 d0] w fun e w' => e = .returned (.int .i64 (1)) ∧ w' = w) := fun w => by
    have h := sCmp14 d1 d0 q0 q1 p0 p1 w
    rw [eC] at h
    exact h
  have H21 : Hid (∀ w : World, Calls Tryd.prog 21 #[.int .u32 d0, .int .u32 d1, .int .i64 (-1)] w fun e w' => e = .returned (.int .u32 (d0)) ∧ w' = w) := fun w => by
    have h := chosen21 d0 d1 (-1) p0 p1 q0 q1 w
    rw [eC] at h
    exact h
  clear eC h
  refine ⟨d0, fun w a n hn c0 c1 c2 => ?_, fun w G => ?_⟩
  · subst hn
    have c1 := c1 (by omega)
    clear c2
    go_enter Tryd.func9, Tryd.ntmps9
    go_wp2_with (first | (go_at_call 13; (with_reducible show Calls Tryd.prog 13 #[.int .u32 d0] _ _); refine (hn0 _).mono ?_; rintro e w1 ⟨rfl, hw1⟩; subst w1) | (go_at_call 13; (with_reducible show Calls Tryd.prog 13 #[.int .u32 d1] _ _); refine (hn1 _).mono ?_; rintro e w1 ⟨rfl, hw1⟩; subst w1) | (go_at_call 14; refine (H14.out _).mono ?_; rintro e w1 ⟨rfl, hw1⟩; subst w1))
    go_ret
    exact ⟨rfl, Below.refl _ _⟩
  · have bx : Below w.heap.size w (w.alloc (.cells #[.int .u32 d0, .int .u32 d1, .int .u32 d2] 30)) := (Below.refl _ _).alloc (Nat.le_refl _) _
    have G1 := G.below bx
    go_enter Tryd.func12, Tryd.ntmps12
    go_wp2
    go_quiet (fail)
    go_wp2_with (go_at_call 21; refine (H21.out _).mono ?_; rintro e w1 ⟨rfl, hw1⟩; subst w1)
    go_ret
    exact ⟨rfl, below_drewN bx _⟩
theorem min_f (s : ByteArray) (es : s.toList = [109, 105, 110]) (d0 d1 d2 : Int) (p0 : 0 ≤ d0) (p1 : d0 < 4294967296) (q0 : 0 ≤ d1) (q1 : d1 < 4294967296) (r0 : 0 ≤ d2) (r1 : d2 < 4294967296) : ∃ R : Int, (∀ (w : World) (a n : Nat), n = 2 → w.cell? ⟨a, 0, none⟩ = some (.int .u32 d0) → (2 ≤ n → w.cell? ⟨a, 1, none⟩ = some (.int .u32 d1)) → (3 ≤ n → w.cell? ⟨a, 2, none⟩ = some (.int .u32 d2)) → Calls Tryd.prog 9 #[.string s, .bool true, .slice (some ⟨a, 0, none⟩) n n] w fun e w' => e = .returned (.int .u32 R) ∧ Below w.heap.size w w') ∧ (∀ w : World, Forms w → Calls Tryd.prog 12 #[.string s, .agg #[.int .u32 d0, .int .u32 d1, .int .u32 d2]] w fun e w' => e = .returned (.int .u32 R) ∧ Below w.heap.size w w') := by
  by_cases hA : 2139095040 < d0 % 2147483648
  · exact min_f_a s es d0 d1 d2 p0 p1 q0 q1 r0 r1 hA
  by_cases hB : 2139095040 < d1 % 2147483648
  · exact min_f_b s es d0 d1 d2 p0 p1 q0 q1 r0 r1 ⟨hA, hB⟩
  by_cases hc : Cm.keyI d1 < Cm.keyI d0
  · exact min_f_c s es d0 d1 d2 p0 p1 q0 q1 r0 r1 ⟨hA, hB, by unfold Cm.cmpI; rw [if_neg (by omega), if_pos hc]⟩
  by_cases hd : Cm.keyI d0 < Cm.keyI d1
  · exact min_f_e s es d0 d1 d2 p0 p1 q0 q1 r0 r1 ⟨hA, hB, by unfold Cm.cmpI; rw [if_neg (by omega), if_neg hc, if_pos hd]⟩
  · exact min_f_d s es d0 d1 d2 p0 p1 q0 q1 r0 r1 ⟨hA, hB, by unfold Cm.cmpI; rw [if_neg (by omega), if_neg hc, if_neg hd]⟩
set_option maxRecDepth 100000 in
set_option maxHeartbeats 4000000 in
theorem max_f_a (s : ByteArray) (es : s.toList = [109, 97, 120]) (d0 d1 d2 : Int) (p0 : 0 ≤ d0) (p1 : d0 < 4294967296) (q0 : 0 ≤ d1) (q1 : d1 < 4294967296) (r0 : 0 ≤ d2) (r1 : d2 < 4294967296) (h : 2139095040 < d0 % 2147483648) : ∃ R : Int, (∀ (w : World) (a n : Nat), n = 2 → w.cell? ⟨a, 0, none⟩ = some (.int .u32 d0) → (2 ≤ n → w.cell? ⟨a, 1, none⟩ = some (.int .u32 d1)) → (3 ≤ n → w.cell? ⟨a, 2, none⟩ = some (.int .u32 d2)) → Calls Tryd.prog 9 #[.string s, .bool true, .slice (some ⟨a, 0, none⟩) n n] w fun e w' => e = .returned (.int .u32 R) ∧ Below w.heap.size w w') ∧ (∀ w : World, Forms w → Calls Tryd.prog 12 #[.string s, .agg #[.int .u32 d0, .int .u32 d1, .int .u32 d2]] w fun e w' => e = .returned (.int .u32 R) ∧ Below w.heap.size w w') := by
  have f0 : (s.toList == [97, 98, 115]) = false := by rw [es]; rfl
  have f1 : (s.toList == [109, 105, 110]) = false := by rw [es]; rfl
  have f2 : (s.toList == [109, 97, 120]) = true := by rw [es]; rfl
  have f3 : (s.toList == [102, 109, 97]) = false := by rw [es]; rfl
  have f4 : (s.toList == [115, 113, 114, 116]) = false := by rw [es]; rfl
  have f5 : (s.toList == [102, 108, 111, 97, 116]) = false := by rw [es]; rfl
  have f6 : (s.toList == [105, 110, 116]) = false := by rw [es]; rfl
  clear es
  have hn0 := sNaN_any d0 p0 p1
  have hn1 := sNaN_any d1 q0 q1
  have eC : Cm.cmpI d1 d0 = 2 := by
    unfold Cm.cmpI; rw [if_pos (by omega)]
  rw [decide_eq_true (by omega)] at hn0
  have H14 : Hid (∀ w : World, Calls Tryd.prog 14 #[.int .u32 d1, .int .u32 d0] w fun e w' => e = .returned (.int .i64 (2)) ∧ w' = w) := fun w => by
    have h := sCmp14 d1 d0 q0 q1 p0 p1 w
    rw [eC] at h
    exact h
  have H21 : Hid (∀ w : World, Calls Tryd.prog 21 #[.int .u32 d0, .int .u32 d1, .int .i64 (1)] w fun e w' => e = .returned (.int .u32 (2143289344)) ∧ w' = w) := fun w => by
    have h := chosen21 d0 d1 (1) p0 p1 q0 q1 w
    rw [eC] at h
    exact h
  clear eC h
  refine ⟨2143289344, fun w a n hn c0 c1 c2 => ?_, fun w G => ?_⟩
  · subst hn
    have c1 := c1 (by omega)
    clear c2
    go_enter Tryd.func9, Tryd.ntmps9
    go_wp2_with (first | (go_at_call 13; (with_reducible show Calls Tryd.prog 13 #[.int .u32 d0] _ _); refine (hn0 _).mono ?_; rintro e w1 ⟨rfl, hw1⟩; subst w1) | (go_at_call 13; (with_reducible show Calls Tryd.prog 13 #[.int .u32 d1] _ _); refine (hn1 _).mono ?_; rintro e w1 ⟨rfl, hw1⟩; subst w1) | (go_at_call 14; refine (H14.out _).mono ?_; rintro e w1 ⟨rfl, hw1⟩; subst w1))
    go_ret
    exact ⟨rfl, Below.refl _ _⟩
  · have bx : Below w.heap.size w (w.alloc (.cells #[.int .u32 d0, .int .u32 d1, .int .u32 d2] 30)) := (Below.refl _ _).alloc (Nat.le_refl _) _
    have G1 := G.below bx
    go_enter Tryd.func12, Tryd.ntmps12
    go_wp2
    go_quiet (fail)
    go_wp2_with (go_at_call 21; refine (H21.out _).mono ?_; rintro e w1 ⟨rfl, hw1⟩; subst w1)
    go_ret
    exact ⟨rfl, below_drewN bx _⟩
set_option maxRecDepth 100000 in
set_option maxHeartbeats 4000000 in
theorem max_f_b (s : ByteArray) (es : s.toList = [109, 97, 120]) (d0 d1 d2 : Int) (p0 : 0 ≤ d0) (p1 : d0 < 4294967296) (q0 : 0 ≤ d1) (q1 : d1 < 4294967296) (r0 : 0 ≤ d2) (r1 : d2 < 4294967296) (h : ¬ 2139095040 < d0 % 2147483648 ∧ 2139095040 < d1 % 2147483648) : ∃ R : Int, (∀ (w : World) (a n : Nat), n = 2 → w.cell? ⟨a, 0, none⟩ = some (.int .u32 d0) → (2 ≤ n → w.cell? ⟨a, 1, none⟩ = some (.int .u32 d1)) → (3 ≤ n → w.cell? ⟨a, 2, none⟩ = some (.int .u32 d2)) → Calls Tryd.prog 9 #[.string s, .bool true, .slice (some ⟨a, 0, none⟩) n n] w fun e w' => e = .returned (.int .u32 R) ∧ Below w.heap.size w w') ∧ (∀ w : World, Forms w → Calls Tryd.prog 12 #[.string s, .agg #[.int .u32 d0, .int .u32 d1, .int .u32 d2]] w fun e w' => e = .returned (.int .u32 R) ∧ Below w.heap.size w w') := by
  have f0 : (s.toList == [97, 98, 115]) = false := by rw [es]; rfl
  have f1 : (s.toList == [109, 105, 110]) = false := by rw [es]; rfl
  have f2 : (s.toList == [109, 97, 120]) = true := by rw [es]; rfl
  have f3 : (s.toList == [102, 109, 97]) = false := by rw [es]; rfl
  have f4 : (s.toList == [115, 113, 114, 116]) = false := by rw [es]; rfl
  have f5 : (s.toList == [102, 108, 111, 97, 116]) = false := by rw [es]; rfl
  have f6 : (s.toList == [105, 110, 116]) = false := by rw [es]; rfl
  clear es
  have hn0 := sNaN_any d0 p0 p1
  have hn1 := sNaN_any d1 q0 q1
  have eC : Cm.cmpI d1 d0 = 2 := by
    unfold Cm.cmpI; rw [if_pos (by omega)]
  rw [decide_eq_false (by omega)] at hn0
  rw [decide_eq_true (by omega)] at hn1
  have H14 : Hid (∀ w : World, Calls Tryd.prog 14 #[.int .u32 d1, .int .u32 d0] w fun e w' => e = .returned (.int .i64 (2)) ∧ w' = w) := fun w => by
    have h := sCmp14 d1 d0 q0 q1 p0 p1 w
    rw [eC] at h
    exact h
  have H21 : Hid (∀ w : World, Calls Tryd.prog 21 #[.int .u32 d0, .int .u32 d1, .int .i64 (1)] w fun e w' => e = .returned (.int .u32 (2143289344)) ∧ w' = w) := fun w => by
    have h := chosen21 d0 d1 (1) p0 p1 q0 q1 w
    rw [eC] at h
    exact h
  clear eC h
  refine ⟨2143289344, fun w a n hn c0 c1 c2 => ?_, fun w G => ?_⟩
  · subst hn
    have c1 := c1 (by omega)
    clear c2
    go_enter Tryd.func9, Tryd.ntmps9
    go_wp2_with (first | (go_at_call 13; (with_reducible show Calls Tryd.prog 13 #[.int .u32 d0] _ _); refine (hn0 _).mono ?_; rintro e w1 ⟨rfl, hw1⟩; subst w1) | (go_at_call 13; (with_reducible show Calls Tryd.prog 13 #[.int .u32 d1] _ _); refine (hn1 _).mono ?_; rintro e w1 ⟨rfl, hw1⟩; subst w1) | (go_at_call 14; refine (H14.out _).mono ?_; rintro e w1 ⟨rfl, hw1⟩; subst w1))
    go_ret
    exact ⟨rfl, Below.refl _ _⟩
  · have bx : Below w.heap.size w (w.alloc (.cells #[.int .u32 d0, .int .u32 d1, .int .u32 d2] 30)) := (Below.refl _ _).alloc (Nat.le_refl _) _
    have G1 := G.below bx
    go_enter Tryd.func12, Tryd.ntmps12
    go_wp2
    go_quiet (fail)
    go_wp2_with (go_at_call 21; refine (H21.out _).mono ?_; rintro e w1 ⟨rfl, hw1⟩; subst w1)
    go_ret
    exact ⟨rfl, below_drewN bx _⟩
set_option maxRecDepth 100000 in
set_option maxHeartbeats 4000000 in
theorem max_f_c (s : ByteArray) (es : s.toList = [109, 97, 120]) (d0 d1 d2 : Int) (p0 : 0 ≤ d0) (p1 : d0 < 4294967296) (q0 : 0 ≤ d1) (q1 : d1 < 4294967296) (r0 : 0 ≤ d2) (r1 : d2 < 4294967296) (h : ¬ 2139095040 < d0 % 2147483648 ∧ ¬ 2139095040 < d1 % 2147483648 ∧ Cm.cmpI d1 d0 = -1) : ∃ R : Int, (∀ (w : World) (a n : Nat), n = 2 → w.cell? ⟨a, 0, none⟩ = some (.int .u32 d0) → (2 ≤ n → w.cell? ⟨a, 1, none⟩ = some (.int .u32 d1)) → (3 ≤ n → w.cell? ⟨a, 2, none⟩ = some (.int .u32 d2)) → Calls Tryd.prog 9 #[.string s, .bool true, .slice (some ⟨a, 0, none⟩) n n] w fun e w' => e = .returned (.int .u32 R) ∧ Below w.heap.size w w') ∧ (∀ w : World, Forms w → Calls Tryd.prog 12 #[.string s, .agg #[.int .u32 d0, .int .u32 d1, .int .u32 d2]] w fun e w' => e = .returned (.int .u32 R) ∧ Below w.heap.size w w') := by
  have f0 : (s.toList == [97, 98, 115]) = false := by rw [es]; rfl
  have f1 : (s.toList == [109, 105, 110]) = false := by rw [es]; rfl
  have f2 : (s.toList == [109, 97, 120]) = true := by rw [es]; rfl
  have f3 : (s.toList == [102, 109, 97]) = false := by rw [es]; rfl
  have f4 : (s.toList == [115, 113, 114, 116]) = false := by rw [es]; rfl
  have f5 : (s.toList == [102, 108, 111, 97, 116]) = false := by rw [es]; rfl
  have f6 : (s.toList == [105, 110, 116]) = false := by rw [es]; rfl
  clear es
  have hn0 := sNaN_any d0 p0 p1
  have hn1 := sNaN_any d1 q0 q1
  have eC : Cm.cmpI d1 d0 = -1 := by
    exact h.2.2
  rw [decide_eq_false (by omega)] at hn0
  rw [decide_eq_false (by omega)] at hn1
  have H14 : Hid (∀ w : World, Calls Tryd.prog 14 #[.int .u32 d1, .int .u32 d0] w fun e w' => e = .returned (.int .i64 (-1)) ∧ w' = w) := fun w => by
    have h := sCmp14 d1 d0 q0 q1 p0 p1 w
    rw [eC] at h
    exact h
  have H21 : Hid (∀ w : World, Calls Tryd.prog 21 #[.int .u32 d0, .int .u32 d1, .int .i64 (1)] w fun e w' => e = .returned (.int .u32 (d0)) ∧ w' = w) := fun w => by
    have h := chosen21 d0 d1 (1) p0 p1 q0 q1 w
    rw [eC] at h
    exact h
  clear eC h
  refine ⟨d0, fun w a n hn c0 c1 c2 => ?_, fun w G => ?_⟩
  · subst hn
    have c1 := c1 (by omega)
    clear c2
    go_enter Tryd.func9, Tryd.ntmps9
    go_wp2_with (first | (go_at_call 13; (with_reducible show Calls Tryd.prog 13 #[.int .u32 d0] _ _); refine (hn0 _).mono ?_; rintro e w1 ⟨rfl, hw1⟩; subst w1) | (go_at_call 13; (with_reducible show Calls Tryd.prog 13 #[.int .u32 d1] _ _); refine (hn1 _).mono ?_; rintro e w1 ⟨rfl, hw1⟩; subst w1) | (go_at_call 14; refine (H14.out _).mono ?_; rintro e w1 ⟨rfl, hw1⟩; subst w1))
    go_ret
    exact ⟨rfl, Below.refl _ _⟩
  · have bx : Below w.heap.size w (w.alloc (.cells #[.int .u32 d0, .int .u32 d1, .int .u32 d2] 30)) := (Below.refl _ _).alloc (Nat.le_refl _) _
    have G1 := G.below bx
    go_enter Tryd.func12, Tryd.ntmps12
    go_wp2
    go_quiet (fail)
    go_wp2_with (go_at_call 21; refine (H21.out _).mono ?_; rintro e w1 ⟨rfl, hw1⟩; subst w1)
    go_ret
    exact ⟨rfl, below_drewN bx _⟩
set_option maxRecDepth 100000 in
set_option maxHeartbeats 4000000 in
theorem max_f_d (s : ByteArray) (es : s.toList = [109, 97, 120]) (d0 d1 d2 : Int) (p0 : 0 ≤ d0) (p1 : d0 < 4294967296) (q0 : 0 ≤ d1) (q1 : d1 < 4294967296) (r0 : 0 ≤ d2) (r1 : d2 < 4294967296) (h : ¬ 2139095040 < d0 % 2147483648 ∧ ¬ 2139095040 < d1 % 2147483648 ∧ Cm.cmpI d1 d0 = 0) : ∃ R : Int, (∀ (w : World) (a n : Nat), n = 2 → w.cell? ⟨a, 0, none⟩ = some (.int .u32 d0) → (2 ≤ n → w.cell? ⟨a, 1, none⟩ = some (.int .u32 d1)) → (3 ≤ n → w.cell? ⟨a, 2, none⟩ = some (.int .u32 d2)) → Calls Tryd.prog 9 #[.string s, .bool true, .slice (some ⟨a, 0, none⟩) n n] w fun e w' => e = .returned (.int .u32 R) ∧ Below w.heap.size w w') ∧ (∀ w : World, Forms w → Calls Tryd.prog 12 #[.string s, .agg #[.int .u32 d0, .int .u32 d1, .int .u32 d2]] w fun e w' => e = .returned (.int .u32 R) ∧ Below w.heap.size w w') := by
  have f0 : (s.toList == [97, 98, 115]) = false := by rw [es]; rfl
  have f1 : (s.toList == [109, 105, 110]) = false := by rw [es]; rfl
  have f2 : (s.toList == [109, 97, 120]) = true := by rw [es]; rfl
  have f3 : (s.toList == [102, 109, 97]) = false := by rw [es]; rfl
  have f4 : (s.toList == [115, 113, 114, 116]) = false := by rw [es]; rfl
  have f5 : (s.toList == [102, 108, 111, 97, 116]) = false := by rw [es]; rfl
  have f6 : (s.toList == [105, 110, 116]) = false := by rw [es]; rfl
  clear es
  have hn0 := sNaN_any d0 p0 p1
  have hn1 := sNaN_any d1 q0 q1
  have eC : Cm.cmpI d1 d0 = 0 := by
    exact h.2.2
  rw [decide_eq_false (by omega)] at hn0
  rw [decide_eq_false (by omega)] at hn1
  have H14 : Hid (∀ w : World, Calls Tryd.prog 14 #[.int .u32 d1, .int .u32 d0] w fun e w' => e = .returned (.int .i64 (0)) ∧ w' = w) := fun w => by
    have h := sCmp14 d1 d0 q0 q1 p0 p1 w
    rw [eC] at h
    exact h
  have H21 : Hid (∀ w : World, Calls Tryd.prog 21 #[.int .u32 d0, .int .u32 d1, .int .i64 (1)] w fun e w' => e = .returned (.int .u32 (d0)) ∧ w' = w) := fun w => by
    have h := chosen21 d0 d1 (1) p0 p1 q0 q1 w
    rw [eC] at h
    exact h
  clear eC h
  refine ⟨d0, fun w a n hn c0 c1 c2 => ?_, fun w G => ?_⟩
  · subst hn
    have c1 := c1 (by omega)
    clear c2
    go_enter Tryd.func9, Tryd.ntmps9
    go_wp2_with (first | (go_at_call 13; (with_reducible show Calls Tryd.prog 13 #[.int .u32 d0] _ _); refine (hn0 _).mono ?_; rintro e w1 ⟨rfl, hw1⟩; subst w1) | (go_at_call 13; (with_reducible show Calls Tryd.prog 13 #[.int .u32 d1] _ _); refine (hn1 _).mono ?_; rintro e w1 ⟨rfl, hw1⟩; subst w1) | (go_at_call 14; refine (H14.out _).mono ?_; rintro e w1 ⟨rfl, hw1⟩; subst w1))
    go_ret
    exact ⟨rfl, Below.refl _ _⟩
  · have bx : Below w.heap.size w (w.alloc (.cells #[.int .u32 d0, .int .u32 d1, .int .u32 d2] 30)) := (Below.refl _ _).alloc (Nat.le_refl _) _
    have G1 := G.below bx
    go_enter Tryd.func12, Tryd.ntmps12
    go_wp2
    go_quiet (fail)
    go_wp2_with (go_at_call 21; refine (H21.out _).mono ?_; rintro e w1 ⟨rfl, hw1⟩; subst w1)
    go_ret
    exact ⟨rfl, below_drewN bx _⟩
set_option maxRecDepth 100000 in
set_option maxHeartbeats 4000000 in
theorem max_f_e (s : ByteArray) (es : s.toList = [109, 97, 120]) (d0 d1 d2 : Int) (p0 : 0 ≤ d0) (p1 : d0 < 4294967296) (q0 : 0 ≤ d1) (q1 : d1 < 4294967296) (r0 : 0 ≤ d2) (r1 : d2 < 4294967296) (h : ¬ 2139095040 < d0 % 2147483648 ∧ ¬ 2139095040 < d1 % 2147483648 ∧ Cm.cmpI d1 d0 = 1) : ∃ R : Int, (∀ (w : World) (a n : Nat), n = 2 → w.cell? ⟨a, 0, none⟩ = some (.int .u32 d0) → (2 ≤ n → w.cell? ⟨a, 1, none⟩ = some (.int .u32 d1)) → (3 ≤ n → w.cell? ⟨a, 2, none⟩ = some (.int .u32 d2)) → Calls Tryd.prog 9 #[.string s, .bool true, .slice (some ⟨a, 0, none⟩) n n] w fun e w' => e = .returned (.int .u32 R) ∧ Below w.heap.size w w') ∧ (∀ w : World, Forms w → Calls Tryd.prog 12 #[.string s, .agg #[.int .u32 d0, .int .u32 d1, .int .u32 d2]] w fun e w' => e = .returned (.int .u32 R) ∧ Below w.heap.size w w') := by
  have f0 : (s.toList == [97, 98, 115]) = false := by rw [es]; rfl
  have f1 : (s.toList == [109, 105, 110]) = false := by rw [es]; rfl
  have f2 : (s.toList == [109, 97, 120]) = true := by rw [es]; rfl
  have f3 : (s.toList == [102, 109, 97]) = false := by rw [es]; rfl
  have f4 : (s.toList == [115, 113, 114, 116]) = false := by rw [es]; rfl
  have f5 : (s.toList == [102, 108, 111, 97, 116]) = false := by rw [es]; rfl
  have f6 : (s.toList == [105, 110, 116]) = false := by rw [es]; rfl
  clear es
  have hn0 := sNaN_any d0 p0 p1
  have hn1 := sNaN_any d1 q0 q1
  have eC : Cm.cmpI d1 d0 = 1 := by
    exact h.2.2
  rw [decide_eq_false (by omega)] at hn0
  rw [decide_eq_false (by omega)] at hn1
  have H14 : Hid (∀ w : World, Calls Tryd.prog 14 #[.int .u32 d1, .int .u32 d0] w fun e w' => e = .returned (.int .i64 (1)) ∧ w' = w) := fun w => by
    have h := sCmp14 d1 d0 q0 q1 p0 p1 w
    rw [eC] at h
    exact h
  have H21 : Hid (∀ w : World, Calls Tryd.prog 21 #[.int .u32 d0, .int .u32 d1, .int .i64 (1)] w fun e w' => e = .returned (.int .u32 (d1)) ∧ w' = w) := fun w => by
    have h := chosen21 d0 d1 (1) p0 p1 q0 q1 w
    rw [eC] at h
    exact h
  clear eC h
  refine ⟨d1, fun w a n hn c0 c1 c2 => ?_, fun w G => ?_⟩
  · subst hn
    have c1 := c1 (by omega)
    clear c2
    go_enter Tryd.func9, Tryd.ntmps9
    go_wp2_with (first | (go_at_call 13; (with_reducible show Calls Tryd.prog 13 #[.int .u32 d0] _ _); refine (hn0 _).mono ?_; rintro e w1 ⟨rfl, hw1⟩; subst w1) | (go_at_call 13; (with_reducible show Calls Tryd.prog 13 #[.int .u32 d1] _ _); refine (hn1 _).mono ?_; rintro e w1 ⟨rfl, hw1⟩; subst w1) | (go_at_call 14; refine (H14.out _).mono ?_; rintro e w1 ⟨rfl, hw1⟩; subst w1))
    go_ret
    exact ⟨rfl, Below.refl _ _⟩
  · have bx : Below w.heap.size w (w.alloc (.cells #[.int .u32 d0, .int .u32 d1, .int .u32 d2] 30)) := (Below.refl _ _).alloc (Nat.le_refl _) _
    have G1 := G.below bx
    go_enter Tryd.func12, Tryd.ntmps12
    go_wp2
    go_quiet (fail)
    go_wp2_with (go_at_call 21; refine (H21.out _).mono ?_; rintro e w1 ⟨rfl, hw1⟩; subst w1)
    go_ret
    exact ⟨rfl, below_drewN bx _⟩
theorem max_f (s : ByteArray) (es : s.toList = [109, 97, 120]) (d0 d1 d2 : Int) (p0 : 0 ≤ d0) (p1 : d0 < 4294967296) (q0 : 0 ≤ d1) (q1 : d1 < 4294967296) (r0 : 0 ≤ d2) (r1 : d2 < 4294967296) : ∃ R : Int, (∀ (w : World) (a n : Nat), n = 2 → w.cell? ⟨a, 0, none⟩ = some (.int .u32 d0) → (2 ≤ n → w.cell? ⟨a, 1, none⟩ = some (.int .u32 d1)) → (3 ≤ n → w.cell? ⟨a, 2, none⟩ = some (.int .u32 d2)) → Calls Tryd.prog 9 #[.string s, .bool true, .slice (some ⟨a, 0, none⟩) n n] w fun e w' => e = .returned (.int .u32 R) ∧ Below w.heap.size w w') ∧ (∀ w : World, Forms w → Calls Tryd.prog 12 #[.string s, .agg #[.int .u32 d0, .int .u32 d1, .int .u32 d2]] w fun e w' => e = .returned (.int .u32 R) ∧ Below w.heap.size w w') := by
  by_cases hA : 2139095040 < d0 % 2147483648
  · exact max_f_a s es d0 d1 d2 p0 p1 q0 q1 r0 r1 hA
  by_cases hB : 2139095040 < d1 % 2147483648
  · exact max_f_b s es d0 d1 d2 p0 p1 q0 q1 r0 r1 ⟨hA, hB⟩
  by_cases hc : Cm.keyI d1 < Cm.keyI d0
  · exact max_f_c s es d0 d1 d2 p0 p1 q0 q1 r0 r1 ⟨hA, hB, by unfold Cm.cmpI; rw [if_neg (by omega), if_pos hc]⟩
  by_cases hd : Cm.keyI d0 < Cm.keyI d1
  · exact max_f_e s es d0 d1 d2 p0 p1 q0 q1 r0 r1 ⟨hA, hB, by unfold Cm.cmpI; rw [if_neg (by omega), if_neg hc, if_pos hd]⟩
  · exact max_f_d s es d0 d1 d2 p0 p1 q0 q1 r0 r1 ⟨hA, hB, by unfold Cm.cmpI; rw [if_neg (by omega), if_neg hc, if_neg hd]⟩
end Go.Proofs.YtoloenkcfpfgcaaDoor
