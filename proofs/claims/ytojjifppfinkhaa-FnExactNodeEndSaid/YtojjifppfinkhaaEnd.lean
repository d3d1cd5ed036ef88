/- Contracts of the program's and the model's NodeEnd: both answer endN of the kids; conditions: the row stands in memory, at most 2^20 long. -/
import Derived.Test.YtojjifppfinkhaaNodeArg
namespace Go.Proofs.Ytojjifppfinkhaa
open Go.ChangeShapes Go.WideShapes Go.ChangeAt Go.RowKit
set_option linter.unusedVariables false
/-- The end of what is wanted: fuel, wanted, place. -/
def endN (J : Nat → Int) (n : Nat) : Nat → Nat → Nat → Int
  | 0, o, k => if o = 0 then (k : Int) else -1
  | f + 1, o, k => if o = 0 then (k : Int) else if J k < 0 ∨ (n : Int) < J k then -1 else endN J n f (o + (J k).toNat - 1) (k + 1)
theorem endN_zero (J : Nat → Int) (n f k : Nat) : endN J n f 0 k = (k : Int) := by cases f <;> simp [endN]
/-- More is wanted than there is. -/
theorem endN_more (J : Nat → Int) (n : Nat) : ∀ (f o k : Nat), f < o → endN J n f o k = -1 := by
  intro f
  induction f with
  | zero => intro o k h; simp [endN]; omega
  | succ f ih =>
    intro o k h
    rw [endN, if_neg (by omega)]
    split
    · rfl
    · exact ih _ _ (by omega)
set_option maxRecDepth 100000 in
set_option maxHeartbeats 2000000 in
theorem end13 {n a : Nat} {K J : Nat → Int} {T : Nat → ByteArray} {w : World} (X : Row3 w a n K T J) (ca k0 : Nat) (hn : n ≤ 1048576) (hk0 : k0 < n) :
    Calls Try.prog 13 #[.slice (some ⟨a, 0, none⟩) n ca, .int .i64 k0] w fun r w' => r = .returned (.int .i64 (endN J n (n - k0) 1 k0)) ∧ Below w.heap.size w w' := by
  obtain ⟨R, hR⟩ : ∃ R, endN J n (n - k0) 1 k0 = R := ⟨_, rfl⟩
  rw [hR]
  have HR : Hid (endN J n (n - k0) 1 k0 = R) := hR
  clear hR
  go_enter Try.func13, Try.ntmps13
  go_wp2
  go_loopw [1, 5] (fun at_ op wr => ∃ (k o : Nat), k ≤ n ∧ at_ = .int .i64 k ∧ op = .int .i64 o ∧ o ≤ 1 + k * n ∧ Hid (endN J n (n - k) o k = R) ∧ Below w.heap.size w wr) (fun at_ _ _ => n + 1 - (intOf at_).toNat)
  case atStart => exact ⟨k0, 1, by omega, rfl, rfl, by omega, HR, Below.refl _ _⟩
  case round =>
    obtain ⟨k, o, hk, rfl, rfl, ho, HE, B⟩ := hrel
    have b1 : k * n ≤ 1048576 * 1048576 := Nat.mul_le_mul (by omega) hn
    obtain ⟨kn, hkn⟩ : ∃ z, k * n = z := ⟨_, rfl⟩
    rw [hkn] at b1 ho
    by_cases o0 : o = 0
    · subst o0
      have he := HE.out
      rw [endN_zero] at he
      subst he
      rw [show ((0 : Nat) : Int) = 0 from rfl]
      go_wp2
      go_ret
      exact ⟨rfl, B⟩
    have o1 : (0 : Int) < (o : Int) := by omega
    by_cases kn : k < n
    · obtain ⟨z, hz⟩ : ∃ z, J k = z := ⟨_, rfl⟩
      have i1 : (k : Int) < (n : Int) := by omega
      have i0 : (0 : Int) ≤ (k : Int) := by omega
      have c2 : wr.cell? ⟨a, k * 3 + 2, none⟩ = some (.int .i64 z) := by rw [← hz]; exact (X.next B).j k kn
      have he := HE.out
      rw [show n - k = (n - k - 1) + 1 by omega, endN, if_neg o0, hz] at he
      by_cases z0 : z < 0
      · rw [if_pos (Or.inl z0)] at he
        subst he
        go_wp2
        go_ret
        exact ⟨rfl, B⟩
      by_cases z1 : (n : Int) < z
      · rw [if_pos (Or.inr z1)] at he
        subst he
        have z0' : 0 ≤ z := by omega
        go_wp2
        go_ret
        exact ⟨rfl, B⟩
      · rw [if_neg (by omega)] at he
        have z0' : 0 ≤ z := by omega
        have z1' : z ≤ (n : Int) := by omega
        have HF : Hid (endN J n (n - k - 1) (o + z.toNat - 1) (k + 1) = R) := he
        clear he HE
        go_wp2
        go_roundw
        case rel =>
          refine ⟨k + 1, o + z.toNat - 1, by omega, by go_num, ?_, ?_, ?_, B⟩
          · rw [show ((o + z.toNat - 1 : Nat) : Int) = (o : Int) + (z - 1) by omega]
          · rw [Nat.add_mul, hkn]; omega
          · rw [show n - (k + 1) = n - k - 1 by omega]; exact HF
        case measure => simp [intOf]; omega
    · have hkk : k = n := by omega
      have i1 : (n : Int) ≤ (k : Int) := by omega
      have he := HE.out
      rw [show n - k = 0 by omega, endN, if_neg o0] at he
      subst he
      go_wp2
      go_ret
      exact ⟨rfl, B⟩
/-- What NodeEnd answers. -/
def nodeEnd (J : Nat → Int) (n : Nat) (at_ : Int) : Int := if at_ < 0 ∨ (n : Int) ≤ at_ then -1 else endN J n (n - at_.toNat) 1 at_.toNat
set_option maxRecDepth 100000 in
set_option maxHeartbeats 2000000 in
theorem end8 {n a : Nat} {K J : Nat → Int} {T : Nat → ByteArray} {w : World} (X : Row3 w a n K T J) (ca : Nat) (p : Int) (hn : n ≤ 1048576) :
    Calls Try.prog 8 #[.slice (some ⟨a, 0, none⟩) n ca, .int .i64 p] w fun r w' => r = .returned (.int .i64 (nodeEnd J n p)) ∧ Below w.heap.size w w' := by
  unfold nodeEnd
  by_cases p0 : p < 0
  · rw [if_pos (Or.inl p0)]
    go_enter Try.func8, Try.ntmps8
    go_wp2
    go_ret
    exact ⟨rfl, Below.refl _ _⟩
  have p0' : 0 ≤ p := by omega
  by_cases p1 : (n : Int) ≤ p
  · rw [if_pos (Or.inr p1)]
    go_enter Try.func8, Try.ntmps8
    go_wp2
    go_ret
    exact ⟨rfl, Below.refl _ _⟩
  rw [if_neg (by omega)]
  obtain ⟨k, rfl⟩ := Int.eq_ofNat_of_zero_le p0'
  have hE := end13 X ca k hn (by omega)
  obtain ⟨R, hR⟩ : ∃ R, endN J n (n - k) 1 k = R := ⟨_, rfl⟩
  rw [show ((k : Nat) : Int).toNat = k by omega, hR]
  rw [hR] at hE
  have p1' : (k : Int) < (n : Int) := by omega
  go_enter Try.func8, Try.ntmps8
  go_wp2_with (go_at_call 13; refine hE.mono ?_; rintro e w1 ⟨rfl, B1⟩)
  go_ret
  exact ⟨rfl, B1⟩
set_option maxRecDepth 100000 in
set_option maxHeartbeats 2000000 in
theorem end10 {n a : Nat} {K J : Nat → Int} {T : Nat → ByteArray} {w : World} (X : Row3 w a n K T J) (ca : Nat) (p : Int) (hn : n ≤ 1048576) :
    Calls Try.prog 10 #[.slice (some ⟨a, 0, none⟩) n ca, .int .i64 p] w fun r w' => r = .returned (.int .i64 (nodeEnd J n p)) ∧ Below w.heap.size w w' := by
  unfold nodeEnd
  by_cases p0 : p < 0
  · rw [if_pos (Or.inl p0)]
    go_enter Try.func10, Try.ntmps10
    go_wp2
    go_ret
    exact ⟨rfl, Below.refl _ _⟩
  have p0' : 0 ≤ p := by omega
  by_cases p1 : (n : Int) ≤ p
  · rw [if_pos (Or.inr p1)]
    go_enter Try.func10, Try.ntmps10
    go_wp2
    go_ret
    exact ⟨rfl, Below.refl _ _⟩
  rw [if_neg (by omega)]
  obtain ⟨k0, rfl⟩ := Int.eq_ofNat_of_zero_le p0'
  rw [show ((k0 : Nat) : Int).toNat = k0 by omega]
  have p1' : (k0 : Int) < (n : Int) := by omega
  obtain ⟨R, hR⟩ : ∃ R, endN J n (n - k0) 1 k0 = R := ⟨_, rfl⟩
  rw [hR]
  have HR : Hid (endN J n (n - k0) 1 k0 = R) := hR
  clear hR
  go_enter Try.func10, Try.ntmps10
  go_wp2
  go_loopw [1, 5] (fun at_ op wr => ∃ (k o : Nat), k ≤ n ∧ at_ = .int .i64 k ∧ op = .int .i64 o ∧ o ≤ 2 * n + 1 ∧ Hid (endN J n (n - k) o k = R) ∧ Below w.heap.size w wr) (fun at_ _ _ => n + 1 - (intOf at_).toNat)
  case atStart => exact ⟨k0, 1, by omega, rfl, rfl, by omega, HR, Below.refl _ _⟩
  case round =>
    obtain ⟨k, o, hk, rfl, rfl, ho, HE, B⟩ := hrel
    by_cases o0 : o = 0
    · subst o0
      have he := HE.out
      rw [endN_zero] at he
      subst he
      rw [show ((0 : Nat) : Int) = 0 from rfl]
      go_wp2
      go_ret
      exact ⟨rfl, B⟩
    have o1 : (0 : Int) < (o : Int) := by omega
    by_cases more : n - k < o
    · have m1 : (n : Int) - (k : Int) < (o : Int) := by omega
      have he := HE.out
      rw [endN_more J n _ _ _ more] at he
      subst he
      go_wp2
      go_ret
      exact ⟨rfl, B⟩
    have m1 : (o : Int) ≤ (n : Int) - (k : Int) := by omega
    have kn : k < n := by omega
    obtain ⟨z, hz⟩ : ∃ z, J k = z := ⟨_, rfl⟩
    have i1 : (k : Int) < (n : Int) := by omega
    have i0 : (0 : Int) ≤ (k : Int) := by omega
    have c2 : wr.cell? ⟨a, k * 3 + 2, none⟩ = some (.int .i64 z) := by rw [← hz]; exact (X.next B).j k kn
    have he := HE.out
    rw [show n - k = (n - k - 1) + 1 by omega, endN, if_neg o0, hz] at he
    by_cases z0 : z < 0
    · rw [if_pos (Or.inl z0)] at he
      subst he
      go_wp2
      go_ret
      exact ⟨rfl, B⟩
    by_cases z1 : (n : Int) < z
    · rw [if_pos (Or.inr z1)] at he
      subst he
      have z0' : 0 ≤ z := by omega
      go_wp2
      go_ret
      exact ⟨rfl, B⟩
    · rw [if_neg (by omega)] at he
      have z0' : 0 ≤ z := by omega
      have z1' : z ≤ (n : Int) := by omega
      have HF : Hid (endN J n (n - k - 1) (o + z.toNat - 1) (k + 1) = R) := he
      clear he HE
      go_wp2
      go_roundw
      case rel =>
        refine ⟨k + 1, o + z.toNat - 1, by omega, by go_num, ?_, by omega, ?_, B⟩
        · rw [show ((o + z.toNat - 1 : Nat) : Int) = (o : Int) + (z - 1) by omega]
        · rw [show n - (k + 1) = n - k - 1 by omega]; exact HF
      case measure => simp [intOf]; omega
end Go.Proofs.Ytojjifppfinkhaa
