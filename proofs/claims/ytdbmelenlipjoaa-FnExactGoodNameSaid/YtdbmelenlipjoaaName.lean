/- What a name is, in plain mathematics (letters, digits, runs of runes), and the contracts of the small functions of names, the program's and the model's; conditions: texts at most 2^20 long. -/
import Derived.Test.YtdbmelenlipjoaaRune
namespace Go.Proofs.Ytdbmelenlipjoaa
open Go.ChangeShapes Go.WideShapes Go.ChangeAt Go.RowKit
theorem texts_ne {a b : ByteArray} (h : ¬ a = b) : (a.toList == b.toList) = false := by
  rw [ByteArray.toList_eq, ByteArray.toList_eq]
  simp only [beq_eq_false_iff_ne, ne_eq]
  exact fun e => h (ByteArray.ext (Array.toList_inj.mp e))
theorem ret_bool {a b : Bool} (h : a = b) : Ending.returned (.bool a) = .returned (.bool b) := by rw [h]
def letB (b : Int) : Bool := decide (97 ≤ b ∧ b ≤ 122 ∨ 65 ≤ b ∧ b ≤ 90 ∨ b = 95)
def digB (b : Int) : Bool := decide (48 ≤ b ∧ b ≤ 57)
def runB (r : Int) (first : Bool) : Bool := if 48 ≤ r ∧ r ≤ 57 then !first else decide (97 ≤ r ∧ r ≤ 122 ∨ 65 ≤ r ∧ r ≤ 90 ∨ r = 95 ∨ 128 ≤ r)
/-- Whether a text is among the first n of a row. -/
def isIn (f : Nat → ByteArray) (s : ByteArray) : Nat → Bool
  | 0 => false
  | n + 1 => isIn f s n || decide (f n = s)
theorem isIn_true (f : Nat → ByteArray) (s : ByteArray) (k : Nat) (h : f k = s) : ∀ n, k < n → isIn f s n = true
  | 0, h0 => by omega
  | n + 1, h1 => by
    unfold isIn
    by_cases e : k = n
    · subst e; simp [h]
    · rw [isIn_true f s k h n (by omega)]; rfl
/-- How many bytes of a name's run the place begins, 0 where none. -/
def stepN (s : ByteArray) (i : Nat) (first : Bool) : Nat :=
  if 128 ≤ bt s i 0 then (runeN s i (bt s i 0)).toNat else if (letB (bt s i 0) || (digB (bt s i 0) && !first)) = true then 1 else 0
def nameRun (s : ByteArray) : Nat → Nat → Nat → Nat × Nat
  | 0, i, r => (i, r)
  | f + 1, i, r => if i < s.size then (if stepN s i (decide (r = 0)) = 0 then (i, r) else nameRun s f (i + stepN s i (decide (r = 0))) (r + 1)) else (i, r)
theorem nameRun_end (s : ByteArray) (f i r : Nat) (h : ¬ i < s.size) : nameRun s f i r = (i, r) := by
  cases f with
  | zero => rfl
  | succ f => rw [nameRun, if_neg h]
theorem nameRun_stop (s : ByteArray) (f i r : Nat) (h : stepN s i (decide (r = 0)) = 0) : nameRun s f i r = (i, r) := by
  cases f with
  | zero => rfl
  | succ f =>
    rw [nameRun]
    by_cases h1 : i < s.size
    · rw [if_pos h1, if_pos h]
    · rw [if_neg h1]
theorem step_le (s : ByteArray) (i : Nat) (first : Bool) (h : i < s.size) : i + stepN s i first ≤ s.size ∧ stepN s i first ≤ 4 := by
  unfold stepN
  split
  · unfold runeN
    simp only [len2, len3, len4]
    repeat' split
    all_goals simp
    all_goals omega
  · split <;> omega
set_option maxHeartbeats 1000000 in
theorem letter21 (b : Int) (w : World) (h0 : 0 ≤ b) (h1 : b < 256) : Calls Try.prog 21 #[.int .u8 b] w fun r w' => r = .returned (.bool (letB b)) ∧ w' = w := by
  obtain ⟨R, hR⟩ : ∃ R, letB b = R := ⟨_, rfl⟩
  rw [hR]
  have HR : Hid (letB b = R) := hR
  clear hR
  by_cases a1 : 97 ≤ b <;> by_cases a2 : b ≤ 122 <;> by_cases a3 : 65 ≤ b <;> by_cases a4 : b ≤ 90 <;> by_cases a5 : b = 95
  all_goals first | omega | (
    go_enter Try.func21, Try.ntmps21
    go_wp2
    go_ret
    exact ⟨by rw [← HR.out]; unfold letB; exact ret_bool (by first | (simp [*]; done) | (rw [Bool.eq_iff_iff]; simp; omega)), rfl⟩)
set_option maxHeartbeats 1000000 in
theorem digit22 (b : Int) (w : World) (h0 : 0 ≤ b) (h1 : b < 256) : Calls Try.prog 22 #[.int .u8 b] w fun r w' => r = .returned (.bool (digB b)) ∧ w' = w := by
  obtain ⟨R, hR⟩ : ∃ R, digB b = R := ⟨_, rfl⟩
  rw [hR]
  have HR : Hid (digB b = R) := hR
  clear hR
  by_cases a1 : 48 ≤ b <;> by_cases a2 : b ≤ 57
  all_goals first | omega | (
    go_enter Try.func22, Try.ntmps22
    go_wp2
    go_ret
    exact ⟨by rw [← HR.out]; unfold digB; exact ret_bool (by first | (simp [*]; done) | (rw [Bool.eq_iff_iff]; simp; omega)), rfl⟩)
set_option maxHeartbeats 2000000 in
theorem nameRune23 (r : Int) (first : Bool) (w : World) (h0 : 0 ≤ r) (h1 : r ≤ 2147483647) : Calls Try.prog 23 #[.int .i32 r, .bool first] w fun e w' => e = .returned (.bool (runB r first)) ∧ w' = w := by
  obtain ⟨R, hR⟩ : ∃ R, runB r first = R := ⟨_, rfl⟩
  rw [hR]
  have HR : Hid (runB r first = R) := hR
  clear hR
  by_cases d1 : 48 ≤ r ∧ r ≤ 57
  · obtain ⟨d1, d2⟩ := d1
    go_enter Try.func23, Try.ntmps23
    go_wp2
    go_ret
    exact ⟨by rw [← HR.out]; unfold runB; simp [*], rfl⟩
  · by_cases e1 : 48 ≤ r <;> by_cases e2 : r ≤ 57 <;> by_cases a1 : 97 ≤ r <;> by_cases a2 : r ≤ 122 <;> by_cases a3 : 65 ≤ r <;> by_cases a4 : r ≤ 90 <;> by_cases a5 : r = 95 <;> by_cases a6 : 128 ≤ r
    all_goals first | omega | (
      go_enter Try.func23, Try.ntmps23
      go_wp2
      go_ret
      exact ⟨by rw [← HR.out]; unfold runB; rw [if_neg d1]; exact ret_bool (by first | (simp [*]; done) | (rw [Bool.eq_iff_iff]; simp; omega)), rfl⟩)
set_option maxRecDepth 100000 in
set_option maxHeartbeats 1000000 in
theorem in17 (n a ca : Nat) (f : Nat → ByteArray) (s : ByteArray) (w : World) (hn : n ≤ 1048576) (ha : ∀ i, i < n → w.cell? ⟨a, i, none⟩ = some (.string (f i))) :
    Calls Try.prog 17 #[.slice (some ⟨a, 0, none⟩) n ca, .string s] w fun r w' => r = .returned (.bool (isIn f s n)) ∧ w' = w := by
  have HA : Hid (∀ i, i < n → w.cell? ⟨a, i, none⟩ = some (.string (f i))) := ha
  clear ha
  go_enter Try.func17, Try.ntmps17
  go_wp2
  go_loop [9] (fun i => ∃ k : Nat, k ≤ n ∧ i = .int .i64 k ∧ Hid (isIn f s k = false)) (fun i => n - (intOf i).toNat)
  case atStart => exact ⟨0, by omega, rfl, rfl⟩
  case round =>
    obtain ⟨k, hk, rfl, HK⟩ := hrel
    by_cases hkn : k < n
    · obtain ⟨t, ht⟩ : ∃ t, f k = t := ⟨_, rfl⟩
      have c1 : w.cell? ⟨a, k, none⟩ = some (.string t) := by rw [← ht]; exact HA.out k hkn
      have i0 : (0 : Int) ≤ (k : Int) := by omega
      have i1 : (k : Int) < (n : Int) := by omega
      have HT : Hid (f k = t) := ht
      clear ht
      by_cases hts : t = s
      · have HR : Hid (isIn f s n = true) := isIn_true f s k (HT.out.trans hts) n hkn
        subst hts
        go_wp2
        go_ret
        exact ⟨by rw [HR.out]; rfl, rfl⟩
      · have HN : Hid (isIn f s (k + 1) = false) := by show _ = _; unfold isIn; rw [HK.out, HT.out]; simp [hts]
        have hl := texts_ne hts
        go_wp2
        go_round
        case rel => exact ⟨k + 1, by omega, by go_num, HN⟩
        case measure => simp [intOf]; omega
    · have hkk : k = n := by omega
      subst hkk
      go_wp2
      go_ret
      exact ⟨by rw [HK.out]; rfl, rfl⟩
set_option maxRecDepth 100000 in
set_option maxHeartbeats 1000000 in
theorem index27 (n a ca : Nat) (f : Nat → ByteArray) (s : ByteArray) (w : World) (hn : n ≤ 1048576) (ha : ∀ i, i < n → w.cell? ⟨a, i, none⟩ = some (.string (f i))) :
    Calls Try.prog 27 #[.slice (some ⟨a, 0, none⟩) n ca, .string s] w fun r w' => (∃ v : Int, r = .returned (.int .i64 v) ∧ isIn f s n = decide (0 ≤ v)) ∧ w' = w := by
  have HA : Hid (∀ i, i < n → w.cell? ⟨a, i, none⟩ = some (.string (f i))) := ha
  clear ha
  go_enter Try.func27, Try.ntmps27
  go_wp2
  go_loop [8] (fun i => ∃ k : Nat, k ≤ n ∧ i = .int .i64 k ∧ Hid (isIn f s k = false)) (fun i => n - (intOf i).toNat)
  case atStart => exact ⟨0, by omega, rfl, rfl⟩
  case round =>
    obtain ⟨k, hk, rfl, HK⟩ := hrel
    by_cases hkn : k < n
    · obtain ⟨t, ht⟩ : ∃ t, f k = t := ⟨_, rfl⟩
      have c1 : w.cell? ⟨a, k, none⟩ = some (.string t) := by rw [← ht]; exact HA.out k hkn
      have i0 : (0 : Int) ≤ (k : Int) := by omega
      have i1 : (k : Int) < (n : Int) := by omega
      have HT : Hid (f k = t) := ht
      clear ht
      by_cases hts : s = t
      · have HR : Hid (isIn f s n = true) := isIn_true f s k (HT.out.trans hts.symm) n hkn
        subst hts
        go_wp2
        go_ret
        exact ⟨⟨_, rfl, by rw [HR.out]; simp⟩, rfl⟩
      · have HN : Hid (isIn f s (k + 1) = false) := by show _ = _; unfold isIn; rw [HK.out, HT.out]; simp; exact fun h => hts h.symm
        have hl := texts_ne hts
        go_wp2
        go_round
        case rel => exact ⟨k + 1, by omega, by go_num, HN⟩
        case measure => simp [intOf]; omega
    · have hkk : k = n := by omega
      subst hkk
      go_wp2
      go_ret
      exact ⟨⟨-1, rfl, by rw [HK.out]; simp⟩, rfl⟩
end Go.Proofs.Ytdbmelenlipjoaa
