/- Plain mathematics: how many bytes the rune at a place of a text has by the model (runeN), and by Go's own reading of texts (Utf8.decode); when that reading stands for a broken byte. -/
import Derived.Laws.RangeAny
namespace Go.Proofs.Ytdbmelenlipjoaa
/-- Whether the bytes behind a rune's first one are as they must be. -/
def tailOk (s : ByteArray) (i : Nat) : Nat → Nat → Int → Int → Bool
  | 0, _, _, _ => true
  | f + 1, k, lo, hi => if h : i + k < s.size then (if (((s[i + k]'h).toNat : Nat) : Int) < lo ∨ hi < (((s[i + k]'h).toNat : Nat) : Int) then false else tailOk s i f (k + 1) 128 191) else false
def tailLen (s : ByteArray) (i n : Nat) (lo hi : Int) : Int := if tailOk s i (n - 1) 1 lo hi = true then (n : Int) else 0
/-- How many bytes the rune from 128 on with this first byte has at a place, 0 where there is none. -/
def runeN (s : ByteArray) (i b : Nat) : Int :=
  if b < 194 then 0 else if b ≤ 223 then tailLen s i 2 128 191
  else if b = 224 then tailLen s i 3 160 191 else if b = 237 then tailLen s i 3 128 159 else if b ≤ 239 then tailLen s i 3 128 191
  else if b = 240 then tailLen s i 4 144 191 else if b = 244 then tailLen s i 4 128 143 else if b ≤ 243 then tailLen s i 4 128 191 else 0
/-- The byte at a place behind i. -/
def bt (s : ByteArray) (i k : Nat) : Nat := (s.get! (i + k)).toNat
theorem bt_lt (s : ByteArray) (i k : Nat) : bt s i k < 256 := (s.get! (i + k)).toNat_lt
theorem bt_eq (s : ByteArray) (i k : Nat) (h : i + k < s.size) : (s[i + k]'h).toNat = bt s i k := by
  unfold bt
  simp [ByteArray.get!, getElem!_pos, h]
  rfl
theorem tail_bt (s : ByteArray) (i f k : Nat) (lo hi : Int) : tailOk s i (f + 1) k lo hi = (decide (i + k < s.size) && (decide (lo ≤ (bt s i k : Int)) && decide ((bt s i k : Int) ≤ hi)) && tailOk s i f (k + 1) 128 191) := by
  rw [tailOk]
  by_cases h : i + k < s.size
  · rw [dif_pos h, bt_eq s i k h]
    by_cases h2 : (bt s i k : Int) < lo ∨ hi < (bt s i k : Int)
    · rw [if_pos h2]
      rcases h2 with h2 | h2
      · have : ¬ lo ≤ (bt s i k : Int) := by omega
        simp [this]
      · have : ¬ (bt s i k : Int) ≤ hi := by omega
        simp [this]
    · rw [if_neg h2]
      have a : lo ≤ (bt s i k : Int) := by omega
      have b : (bt s i k : Int) ≤ hi := by omega
      simp [h, a, b]
  · rw [dif_neg h]; simp [h]
theorem tail_nil (s : ByteArray) (i k : Nat) (lo hi : Int) : tailOk s i 0 k lo hi = true := by rw [tailOk]
/-- Go's own reading, by bytes. -/
theorem decode_bt (s : ByteArray) (i : Nat) : Utf8.decode s i =
    (if bt s i 0 < 128 then (bt s i 0, 1)
     else if (bt s i 0 / 32 == 6 && (decide (i + 1 < s.size) && bt s i 1 / 64 == 2)) = true then
       (if bt s i 0 % 32 * 64 + bt s i 1 % 64 ≥ 128 then (bt s i 0 % 32 * 64 + bt s i 1 % 64, 2) else (65533, 1))
     else if (bt s i 0 / 16 == 14 && (decide (i + 1 < s.size) && bt s i 1 / 64 == 2) && (decide (i + 2 < s.size) && bt s i 2 / 64 == 2)) = true then
       (if (decide (bt s i 0 % 16 * 4096 + bt s i 1 % 64 * 64 + bt s i 2 % 64 ≥ 2048) && Utf8.valid ((bt s i 0 % 16 * 4096 + bt s i 1 % 64 * 64 + bt s i 2 % 64 : Nat) : Int)) = true then (bt s i 0 % 16 * 4096 + bt s i 1 % 64 * 64 + bt s i 2 % 64, 3) else (65533, 1))
     else if (bt s i 0 / 8 == 30 && (decide (i + 1 < s.size) && bt s i 1 / 64 == 2) && (decide (i + 2 < s.size) && bt s i 2 / 64 == 2) && (decide (i + 3 < s.size) && bt s i 3 / 64 == 2)) = true then
       (if (decide (bt s i 0 % 8 * 262144 + bt s i 1 % 64 * 4096 + bt s i 2 % 64 * 64 + bt s i 3 % 64 ≥ 65536) && Utf8.valid ((bt s i 0 % 8 * 262144 + bt s i 1 % 64 * 4096 + bt s i 2 % 64 * 64 + bt s i 3 % 64 : Nat) : Int)) = true then (bt s i 0 % 8 * 262144 + bt s i 1 % 64 * 4096 + bt s i 2 % 64 * 64 + bt s i 3 % 64, 4) else (65533, 1))
     else (65533, 1)) := rfl
theorem len2 (s : ByteArray) (i : Nat) (lo hi : Int) : tailLen s i 2 lo hi = if i + 1 < s.size ∧ lo ≤ (bt s i 1 : Int) ∧ (bt s i 1 : Int) ≤ hi then 2 else 0 := by
  unfold tailLen
  rw [show 2 - 1 = 0 + 1 from rfl, tail_bt, tail_nil]
  simp
theorem len3 (s : ByteArray) (i : Nat) (lo hi : Int) : tailLen s i 3 lo hi = if (i + 1 < s.size ∧ lo ≤ (bt s i 1 : Int) ∧ (bt s i 1 : Int) ≤ hi) ∧ i + 2 < s.size ∧ 128 ≤ (bt s i 2 : Int) ∧ (bt s i 2 : Int) ≤ 191 then 3 else 0 := by
  unfold tailLen
  rw [show 3 - 1 = 0 + 1 + 1 from rfl, tail_bt, tail_bt, tail_nil]
  simp
theorem len4 (s : ByteArray) (i : Nat) (lo hi : Int) : tailLen s i 4 lo hi = if (i + 1 < s.size ∧ lo ≤ (bt s i 1 : Int) ∧ (bt s i 1 : Int) ≤ hi) ∧ (i + 2 < s.size ∧ 128 ≤ (bt s i 2 : Int) ∧ (bt s i 2 : Int) ≤ 191) ∧ i + 3 < s.size ∧ 128 ≤ (bt s i 3 : Int) ∧ (bt s i 3 : Int) ≤ 191 then 4 else 0 := by
  unfold tailLen
  rw [show 4 - 1 = 0 + 1 + 1 + 1 from rfl, tail_bt, tail_bt, tail_bt, tail_nil]
  simp
set_option maxRecDepth 100000 in
set_option maxHeartbeats 4000000 in
theorem rune_decode (s : ByteArray) (i : Nat) (h0 : 128 ≤ bt s i 0) :
    runeN s i (bt s i 0) = (if (Utf8.decode s i).2 = 1 then 0 else ((Utf8.decode s i).2 : Int)) ∧
    ((Utf8.decode s i).2 = 1 → (Utf8.decode s i).1 = 65533) ∧ 1 ≤ (Utf8.decode s i).2 ∧ 128 ≤ (Utf8.decode s i).1 ∧
    ((Utf8.decode s i).1 = 65533 → ((Utf8.decode s i).2 ≠ 1 ↔ i + 2 < s.size ∧ bt s i 0 = 239 ∧ bt s i 1 = 191 ∧ bt s i 2 = 189)) := by
  have l1 := bt_lt s i 1
  have l2 := bt_lt s i 2
  have l3 := bt_lt s i 3
  have l0 := bt_lt s i 0
  have e := decode_bt s i
  generalize Utf8.decode s i = D at *
  simp only [runeN, len2, len3, len4]
  unfold Utf8.valid at e
  generalize bt s i 0 = b0 at *
  generalize bt s i 1 = b1 at *
  generalize bt s i 2 = b2 at *
  generalize bt s i 3 = b3 at *
  generalize s.size = n at *
  simp only [Bool.and_eq_true, Bool.or_eq_true, decide_eq_true_eq, beq_iff_eq, Nat.not_lt.2 h0, if_false] at e
  split at e
  · split at e
    · subst e
      dsimp only
      refine ⟨?_, fun h => absurd h (by decide), by decide, by omega, fun _ => ⟨fun _ => by omega, fun _ => by decide⟩⟩
      rw [if_neg (c := ((_ : Nat) = 1)) (by decide)]
      repeat' split
      all_goals omega
    · subst e
      dsimp only
      refine ⟨?_, fun _ => rfl, by decide, by decide, fun _ => ⟨fun h => absurd rfl h, fun h => by omega⟩⟩
      rw [if_pos rfl]
      repeat' split
      all_goals omega
  · split at e
    · split at e
      · subst e
        dsimp only
        refine ⟨?_, fun h => absurd h (by decide), by decide, by omega, fun _ => ⟨fun _ => by omega, fun _ => by decide⟩⟩
        rw [if_neg (c := ((_ : Nat) = 1)) (by decide)]
        repeat' split
        all_goals omega
      · subst e
        dsimp only
        refine ⟨?_, fun _ => rfl, by decide, by decide, fun _ => ⟨fun h => absurd rfl h, fun h => by omega⟩⟩
        rw [if_pos rfl]
        repeat' split
        all_goals omega
    · split at e
      · split at e
        · subst e
          dsimp only
          refine ⟨?_, fun h => absurd h (by decide), by decide, by omega, fun _ => ⟨fun _ => by omega, fun _ => by decide⟩⟩
          rw [if_neg (c := ((_ : Nat) = 1)) (by decide)]
          repeat' split
          all_goals omega
        · subst e
          dsimp only
          refine ⟨?_, fun _ => rfl, by decide, by decide, fun _ => ⟨fun h => absurd rfl h, fun h => by omega⟩⟩
          rw [if_pos rfl]
          repeat' split
          all_goals omega
      · subst e
        dsimp only
        refine ⟨?_, fun _ => rfl, by decide, by decide, fun _ => ⟨fun h => absurd rfl h, fun h => by omega⟩⟩
        rw [if_pos rfl]
        repeat' split
        all_goals omega
end Go.Proofs.Ytdbmelenlipjoaa
