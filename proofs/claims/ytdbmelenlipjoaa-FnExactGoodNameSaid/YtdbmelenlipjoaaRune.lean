/- Contract of the model's l3Rune: how many bytes the rune from 128 on at a place has; conditions: the place lies in the text, which is at most 2^20 long. -/
import Derived.Test.YtdbmelenlipjoaaLit
import Derived.Test.YtdbmelenlipjoaaDec
namespace Go.Proofs.Ytdbmelenlipjoaa
open Go.ChangeShapes Go.WideShapes Go.ChangeAt Go.RowKit
set_option linter.unusedVariables false
set_option maxRecDepth 100000 in
set_option maxHeartbeats 2000000 in
theorem runeA (s : ByteArray) (i : Nat) (w : World) (hi : i < s.size) (hs : s.size ≤ 1048576) (b : Int) (hb : (((s[i]'hi).toNat : Nat) : Int) = b) (b0 : 0 ≤ b) (b1 : b < 256) (c1 : b < 194) (c2 : ¬ 194 ≤ b) (c3 : ¬ 224 ≤ b) (c4 : ¬ 240 ≤ b) :
    Calls Try.prog 20 #[.string s, .int .i64 i] w fun r w' => r = .returned (.int .i64 0) ∧ w' = w := by
  have i0 : (0 : Int) ≤ (i : Int) := by omega
  have i1 : (i : Int) < (s.size : Int) := by omega
  go_enter Try.func20, Try.ntmps20
  go_wp2
  go_ret
  exact ⟨rfl, rfl⟩
set_option maxRecDepth 100000 in
set_option maxHeartbeats 2000000 in
theorem runeB (s : ByteArray) (i : Nat) (w : World) (hi : i < s.size) (hs : s.size ≤ 1048576) (b : Int) (hb : (((s[i]'hi).toNat : Nat) : Int) = b) (b0 : 0 ≤ b) (b1 : b < 256) (c1 : 194 ≤ b) (c2 : b ≤ 223) :
    Calls Try.prog 20 #[.string s, .int .i64 i] w fun r w' => r = .returned (.int .i64 (tailLen s i 2 128 191)) ∧ w' = w := by
  have i0 : (0 : Int) ≤ (i : Int) := by omega
  have i1 : (i : Int) < (s.size : Int) := by omega
  go_enter Try.func20, Try.ntmps20
  go_wp2
  obtain ⟨T, hT⟩ : ∃ T, tailOk s i 1 1 128 191 = T := ⟨_, rfl⟩
  have HT : Hid (tailLen s i 2 128 191 = if T = true then 2 else 0) := by show _ = _; unfold tailLen; rw [show 2 - 1 = 1 from rfl, hT]; rfl
  go_loopw [7, 8, 9] (fun l h kv wr => ∃ (f k : Nat) (lo hi : Int), l = .int .i64 lo ∧ h = .int .i64 hi ∧ kv = .int .i64 k ∧ k + f = 2 ∧ 1 ≤ k ∧ tailOk s i f k lo hi = T ∧ wr = w) (fun _ _ kv _ => 2 - (intOf kv).toNat)
  case atStart => exact ⟨1, 1, 128, 191, rfl, rfl, rfl, rfl, by omega, hT, rfl⟩
  case round =>
    obtain ⟨f, k, lo, hi', rfl, rfl, rfl, hk, k1, ht, hwr⟩ := hrel
    subst wr
    clear hT
    have HI : Hid (i < s.size) := hi
    rcases f with _ | f
    · obtain rfl : k = 2 := by omega
      simp only [tailOk] at ht
      subst ht
      go_wp2
      go_ret
      exact ⟨by rw [HT.out]; rfl, rfl⟩
    · have k2 : (k : Int) < 2 := by omega
      by_cases h : i + k < s.size
      · have e : (((s[i + k]'h).toNat : Nat) : Int) < 256 := by have := (s[i + k]'h).toNat_lt; omega
        simp only [tailOk, dif_pos h] at ht
        obtain ⟨x, hx⟩ : ∃ x : Int, (((s[i + k]'h).toNat : Nat) : Int) = x := ⟨_, rfl⟩
        rw [hx] at ht e
        have x0 : 0 ≤ x := by omega
        have q1 : ¬ (s.size : Int) ≤ (i : Int) + (k : Int) := by omega
        have q2 : (0 : Int) ≤ (i : Int) + (k : Int) := by omega
        have q3 : (i : Int) + (k : Int) < (s.size : Int) := by omega
        have q4 : ((i : Int) + (k : Int)).toNat = i + k := by omega
        have hx' : (((s[((i : Int) + (k : Int)).toNat]'(by omega)).toNat : Nat) : Int) = x := by rw [← hx]; simp only [q4]
        by_cases hl : x < lo
        · rw [if_pos (Or.inl hl)] at ht
          subst ht
          go_wp2
          go_ret
          exact ⟨by rw [HT.out]; rfl, rfl⟩
        · by_cases hh : hi' < x
          · rw [if_pos (Or.inr hh)] at ht
            subst ht
            go_wp2
            go_ret
            exact ⟨by rw [HT.out]; rfl, rfl⟩
          · rw [if_neg (by omega)] at ht
            have HT2 : Hid (tailOk s i f (k + 1) 128 191 = T) := ht
            clear ht
            go_wp2
            go_roundw
            case rel => exact ⟨f, k + 1, 128, 191, rfl, rfl, by go_num, by omega, by omega, HT2.out, by first | rfl | trivial⟩
            case measure => simp [intOf]; omega
      · simp only [tailOk, dif_neg h] at ht
        subst ht
        have q1 : (s.size : Int) ≤ (i : Int) + (k : Int) := by omega
        go_wp2
        go_ret
        exact ⟨by rw [HT.out]; rfl, rfl⟩
set_option maxRecDepth 100000 in
set_option maxHeartbeats 2000000 in
theorem runeC (s : ByteArray) (i : Nat) (w : World) (hi : i < s.size) (hs : s.size ≤ 1048576) (b : Int) (hb : (((s[i]'hi).toNat : Nat) : Int) = b) (b0 : 0 ≤ b) (b1 : b < 256) (c1 : b = 224) :
    Calls Try.prog 20 #[.string s, .int .i64 i] w fun r w' => r = .returned (.int .i64 (tailLen s i 3 160 191)) ∧ w' = w := by
  have i0 : (0 : Int) ≤ (i : Int) := by omega
  have i1 : (i : Int) < (s.size : Int) := by omega
  subst c1
  go_enter Try.func20, Try.ntmps20
  go_wp2
  obtain ⟨T, hT⟩ : ∃ T, tailOk s i 2 1 160 191 = T := ⟨_, rfl⟩
  have HT : Hid (tailLen s i 3 160 191 = if T = true then 3 else 0) := by show _ = _; unfold tailLen; rw [show 3 - 1 = 2 from rfl, hT]; rfl
  go_loopw [7, 8, 9] (fun l h kv wr => ∃ (f k : Nat) (lo hi : Int), l = .int .i64 lo ∧ h = .int .i64 hi ∧ kv = .int .i64 k ∧ k + f = 3 ∧ 1 ≤ k ∧ tailOk s i f k lo hi = T ∧ wr = w) (fun _ _ kv _ => 3 - (intOf kv).toNat)
  case atStart => exact ⟨2, 1, 160, 191, rfl, rfl, rfl, rfl, by omega, hT, rfl⟩
  case round =>
    obtain ⟨f, k, lo, hi', rfl, rfl, rfl, hk, k1, ht, hwr⟩ := hrel
    subst wr
    clear hT
    have HI : Hid (i < s.size) := hi
    rcases f with _ | f
    · obtain rfl : k = 3 := by omega
      simp only [tailOk] at ht
      subst ht
      go_wp2
      go_ret
      exact ⟨by rw [HT.out]; rfl, rfl⟩
    · have k2 : (k : Int) < 3 := by omega
      by_cases h : i + k < s.size
      · have e : (((s[i + k]'h).toNat : Nat) : Int) < 256 := by have := (s[i + k]'h).toNat_lt; omega
        simp only [tailOk, dif_pos h] at ht
        obtain ⟨x, hx⟩ : ∃ x : Int, (((s[i + k]'h).toNat : Nat) : Int) = x := ⟨_, rfl⟩
        rw [hx] at ht e
        have x0 : 0 ≤ x := by omega
        have q1 : ¬ (s.size : Int) ≤ (i : Int) + (k : Int) := by omega
        have q2 : (0 : Int) ≤ (i : Int) + (k : Int) := by omega
        have q3 : (i : Int) + (k : Int) < (s.size : Int) := by omega
        have q4 : ((i : Int) + (k : Int)).toNat = i + k := by omega
        have hx' : (((s[((i : Int) + (k : Int)).toNat]'(by omega)).toNat : Nat) : Int) = x := by rw [← hx]; simp only [q4]
        by_cases hl : x < lo
        · rw [if_pos (Or.inl hl)] at ht
          subst ht
          go_wp2
          go_ret
          exact ⟨by rw [HT.out]; rfl, rfl⟩
        · by_cases hh : hi' < x
          · rw [if_pos (Or.inr hh)] at ht
            subst ht
            go_wp2
            go_ret
            exact ⟨by rw [HT.out]; rfl, rfl⟩
          · rw [if_neg (by omega)] at ht
            have HT2 : Hid (tailOk s i f (k + 1) 128 191 = T) := ht
            clear ht
            go_wp2
            go_roundw
            case rel => exact ⟨f, k + 1, 128, 191, rfl, rfl, by go_num, by omega, by omega, HT2.out, by first | rfl | trivial⟩
            case measure => simp [intOf]; omega
      · simp only [tailOk, dif_neg h] at ht
        subst ht
        have q1 : (s.size : Int) ≤ (i : Int) + (k : Int) := by omega
        go_wp2
        go_ret
        exact ⟨by rw [HT.out]; rfl, rfl⟩
set_option maxRecDepth 100000 in
set_option maxHeartbeats 2000000 in
theorem runeD (s : ByteArray) (i : Nat) (w : World) (hi : i < s.size) (hs : s.size ≤ 1048576) (b : Int) (hb : (((s[i]'hi).toNat : Nat) : Int) = b) (b0 : 0 ≤ b) (b1 : b < 256) (c1 : 194 ≤ b) (c2 : ¬ b ≤ 223) (c3 : 224 ≤ b) (c4 : b ≤ 239) (c5 : ¬ b = 224) (c6 : ¬ b = 237) :
    Calls Try.prog 20 #[.string s, .int .i64 i] w fun r w' => r = .returned (.int .i64 (tailLen s i 3 128 191)) ∧ w' = w := by
  have i0 : (0 : Int) ≤ (i : Int) := by omega
  have i1 : (i : Int) < (s.size : Int) := by omega
  go_enter Try.func20, Try.ntmps20
  go_wp2
  obtain ⟨T, hT⟩ : ∃ T, tailOk s i 2 1 128 191 = T := ⟨_, rfl⟩
  have HT : Hid (tailLen s i 3 128 191 = if T = true then 3 else 0) := by show _ = _; unfold tailLen; rw [show 3 - 1 = 2 from rfl, hT]; rfl
  go_loopw [7, 8, 9] (fun l h kv wr => ∃ (f k : Nat) (lo hi : Int), l = .int .i64 lo ∧ h = .int .i64 hi ∧ kv = .int .i64 k ∧ k + f = 3 ∧ 1 ≤ k ∧ tailOk s i f k lo hi = T ∧ wr = w) (fun _ _ kv _ => 3 - (intOf kv).toNat)
  case atStart => exact ⟨2, 1, 128, 191, rfl, rfl, rfl, rfl, by omega, hT, rfl⟩
  case round =>
    obtain ⟨f, k, lo, hi', rfl, rfl, rfl, hk, k1, ht, hwr⟩ := hrel
    subst wr
    clear hT
    have HI : Hid (i < s.size) := hi
    rcases f with _ | f
    · obtain rfl : k = 3 := by omega
      simp only [tailOk] at ht
      subst ht
      go_wp2
      go_ret
      exact ⟨by rw [HT.out]; rfl, rfl⟩
    · have k2 : (k : Int) < 3 := by omega
      by_cases h : i + k < s.size
      · have e : (((s[i + k]'h).toNat : Nat) : Int) < 256 := by have := (s[i + k]'h).toNat_lt; omega
        simp only [tailOk, dif_pos h] at ht
        obtain ⟨x, hx⟩ : ∃ x : Int, (((s[i + k]'h).toNat : Nat) : Int) = x := ⟨_, rfl⟩
        rw [hx] at ht e
        have x0 : 0 ≤ x := by omega
        have q1 : ¬ (s.size : Int) ≤ (i : Int) + (k : Int) := by omega
        have q2 : (0 : Int) ≤ (i : Int) + (k : Int) := by omega
        have q3 : (i : Int) + (k : Int) < (s.size : Int) := by omega
        have q4 : ((i : Int) + (k : Int)).toNat = i + k := by omega
        have hx' : (((s[((i : Int) + (k : Int)).toNat]'(by omega)).toNat : Nat) : Int) = x := by rw [← hx]; simp only [q4]
        by_cases hl : x < lo
        · rw [if_pos (Or.inl hl)] at ht
          subst ht
          go_wp2
          go_ret
          exact ⟨by rw [HT.out]; rfl, rfl⟩
        · by_cases hh : hi' < x
          · rw [if_pos (Or.inr hh)] at ht
            subst ht
            go_wp2
            go_ret
            exact ⟨by rw [HT.out]; rfl, rfl⟩
          · rw [if_neg (by omega)] at ht
            have HT2 : Hid (tailOk s i f (k + 1) 128 191 = T) := ht
            clear ht
            go_wp2
            go_roundw
            case rel => exact ⟨f, k + 1, 128, 191, rfl, rfl, by go_num, by omega, by omega, HT2.out, by first | rfl | trivial⟩
            case measure => simp [intOf]; omega
      · simp only [tailOk, dif_neg h] at ht
        subst ht
        have q1 : (s.size : Int) ≤ (i : Int) + (k : Int) := by omega
        go_wp2
        go_ret
        exact ⟨by rw [HT.out]; rfl, rfl⟩
set_option maxRecDepth 100000 in
set_option maxHeartbeats 2000000 in
theorem runeE (s : ByteArray) (i : Nat) (w : World) (hi : i < s.size) (hs : s.size ≤ 1048576) (b : Int) (hb : (((s[i]'hi).toNat : Nat) : Int) = b) (b0 : 0 ≤ b) (b1 : b < 256) (c1 : b = 237) :
    Calls Try.prog 20 #[.string s, .int .i64 i] w fun r w' => r = .returned (.int .i64 (tailLen s i 3 128 159)) ∧ w' = w := by
  have i0 : (0 : Int) ≤ (i : Int) := by omega
  have i1 : (i : Int) < (s.size : Int) := by omega
  subst c1
  go_enter Try.func20, Try.ntmps20
  go_wp2
  obtain ⟨T, hT⟩ : ∃ T, tailOk s i 2 1 128 159 = T := ⟨_, rfl⟩
  have HT : Hid (tailLen s i 3 128 159 = if T = true then 3 else 0) := by show _ = _; unfold tailLen; rw [show 3 - 1 = 2 from rfl, hT]; rfl
  go_loopw [7, 8, 9] (fun l h kv wr => ∃ (f k : Nat) (lo hi : Int), l = .int .i64 lo ∧ h = .int .i64 hi ∧ kv = .int .i64 k ∧ k + f = 3 ∧ 1 ≤ k ∧ tailOk s i f k lo hi = T ∧ wr = w) (fun _ _ kv _ => 3 - (intOf kv).toNat)
  case atStart => exact ⟨2, 1, 128, 159, rfl, rfl, rfl, rfl, by omega, hT, rfl⟩
  case round =>
    obtain ⟨f, k, lo, hi', rfl, rfl, rfl, hk, k1, ht, hwr⟩ := hrel
    subst wr
    clear hT
    have HI : Hid (i < s.size) := hi
    rcases f with _ | f
    · obtain rfl : k = 3 := by omega
      simp only [tailOk] at ht
      subst ht
      go_wp2
      go_ret
      exact ⟨by rw [HT.out]; rfl, rfl⟩
    · have k2 : (k : Int) < 3 := by omega
      by_cases h : i + k < s.size
      · have e : (((s[i + k]'h).toNat : Nat) : Int) < 256 := by have := (s[i + k]'h).toNat_lt; omega
        simp only [tailOk, dif_pos h] at ht
        obtain ⟨x, hx⟩ : ∃ x : Int, (((s[i + k]'h).toNat : Nat) : Int) = x := ⟨_, rfl⟩
        rw [hx] at ht e
        have x0 : 0 ≤ x := by omega
        have q1 : ¬ (s.size : Int) ≤ (i : Int) + (k : Int) := by omega
        have q2 : (0 : Int) ≤ (i : Int) + (k : Int) := by omega
        have q3 : (i : Int) + (k : Int) < (s.size : Int) := by omega
        have q4 : ((i : Int) + (k : Int)).toNat = i + k := by omega
        have hx' : (((s[((i : Int) + (k : Int)).toNat]'(by omega)).toNat : Nat) : Int) = x := by rw [← hx]; simp only [q4]
        by_cases hl : x < lo
        · rw [if_pos (Or.inl hl)] at ht
          subst ht
          go_wp2
          go_ret
          exact ⟨by rw [HT.out]; rfl, rfl⟩
        · by_cases hh : hi' < x
          · rw [if_pos (Or.inr hh)] at ht
            subst ht
            go_wp2
            go_ret
            exact ⟨by rw [HT.out]; rfl, rfl⟩
          · rw [if_neg (by omega)] at ht
            have HT2 : Hid (tailOk s i f (k + 1) 128 191 = T) := ht
            clear ht
            go_wp2
            go_roundw
            case rel => exact ⟨f, k + 1, 128, 191, rfl, rfl, by go_num, by omega, by omega, HT2.out, by first | rfl | trivial⟩
            case measure => simp [intOf]; omega
      · simp only [tailOk, dif_neg h] at ht
        subst ht
        have q1 : (s.size : Int) ≤ (i : Int) + (k : Int) := by omega
        go_wp2
        go_ret
        exact ⟨by rw [HT.out]; rfl, rfl⟩
set_option maxRecDepth 100000 in
set_option maxHeartbeats 2000000 in
theorem runeF (s : ByteArray) (i : Nat) (w : World) (hi : i < s.size) (hs : s.size ≤ 1048576) (b : Int) (hb : (((s[i]'hi).toNat : Nat) : Int) = b) (b0 : 0 ≤ b) (b1 : b < 256) (c1 : b = 240) :
    Calls Try.prog 20 #[.string s, .int .i64 i] w fun r w' => r = .returned (.int .i64 (tailLen s i 4 144 191)) ∧ w' = w := by
  have i0 : (0 : Int) ≤ (i : Int) := by omega
  have i1 : (i : Int) < (s.size : Int) := by omega
  subst c1
  go_enter Try.func20, Try.ntmps20
  go_wp2
  obtain ⟨T, hT⟩ : ∃ T, tailOk s i 3 1 144 191 = T := ⟨_, rfl⟩
  have HT : Hid (tailLen s i 4 144 191 = if T = true then 4 else 0) := by show _ = _; unfold tailLen; rw [show 4 - 1 = 3 from rfl, hT]; rfl
  go_loopw [7, 8, 9] (fun l h kv wr => ∃ (f k : Nat) (lo hi : Int), l = .int .i64 lo ∧ h = .int .i64 hi ∧ kv = .int .i64 k ∧ k + f = 4 ∧ 1 ≤ k ∧ tailOk s i f k lo hi = T ∧ wr = w) (fun _ _ kv _ => 4 - (intOf kv).toNat)
  case atStart => exact ⟨3, 1, 144, 191, rfl, rfl, rfl, rfl, by omega, hT, rfl⟩
  case round =>
    obtain ⟨f, k, lo, hi', rfl, rfl, rfl, hk, k1, ht, hwr⟩ := hrel
    subst wr
    clear hT
    have HI : Hid (i < s.size) := hi
    rcases f with _ | f
    · obtain rfl : k = 4 := by omega
      simp only [tailOk] at ht
      subst ht
      go_wp2
      go_ret
      exact ⟨by rw [HT.out]; rfl, rfl⟩
    · have k2 : (k : Int) < 4 := by omega
      by_cases h : i + k < s.size
      · have e : (((s[i + k]'h).toNat : Nat) : Int) < 256 := by have := (s[i + k]'h).toNat_lt; omega
        simp only [tailOk, dif_pos h] at ht
        obtain ⟨x, hx⟩ : ∃ x : Int, (((s[i + k]'h).toNat : Nat) : Int) = x := ⟨_, rfl⟩
        rw [hx] at ht e
        have x0 : 0 ≤ x := by omega
        have q1 : ¬ (s.size : Int) ≤ (i : Int) + (k : Int) := by omega
        have q2 : (0 : Int) ≤ (i : Int) + (k : Int) := by omega
        have q3 : (i : Int) + (k : Int) < (s.size : Int) := by omega
        have q4 : ((i : Int) + (k : Int)).toNat = i + k := by omega
        have hx' : (((s[((i : Int) + (k : Int)).toNat]'(by omega)).toNat : Nat) : Int) = x := by rw [← hx]; simp only [q4]
        by_cases hl : x < lo
        · rw [if_pos (Or.inl hl)] at ht
          subst ht
          go_wp2
          go_ret
          exact ⟨by rw [HT.out]; rfl, rfl⟩
        · by_cases hh : hi' < x
          · rw [if_pos (Or.inr hh)] at ht
            subst ht
            go_wp2
            go_ret
            exact ⟨by rw [HT.out]; rfl, rfl⟩
          · rw [if_neg (by omega)] at ht
            have HT2 : Hid (tailOk s i f (k + 1) 128 191 = T) := ht
            clear ht
            go_wp2
            go_roundw
            case rel => exact ⟨f, k + 1, 128, 191, rfl, rfl, by go_num, by omega, by omega, HT2.out, by first | rfl | trivial⟩
            case measure => simp [intOf]; omega
      · simp only [tailOk, dif_neg h] at ht
        subst ht
        have q1 : (s.size : Int) ≤ (i : Int) + (k : Int) := by omega
        go_wp2
        go_ret
        exact ⟨by rw [HT.out]; rfl, rfl⟩
set_option maxRecDepth 100000 in
set_option maxHeartbeats 2000000 in
theorem runeG (s : ByteArray) (i : Nat) (w : World) (hi : i < s.size) (hs : s.size ≤ 1048576) (b : Int) (hb : (((s[i]'hi).toNat : Nat) : Int) = b) (b0 : 0 ≤ b) (b1 : b < 256) (c1 : 194 ≤ b) (c2 : ¬ b ≤ 223) (c3 : 224 ≤ b) (c4 : ¬ b ≤ 239) (c5 : 240 ≤ b) (c6 : b ≤ 244) (c7 : ¬ b = 240) (c8 : ¬ b = 244) :
    Calls Try.prog 20 #[.string s, .int .i64 i] w fun r w' => r = .returned (.int .i64 (tailLen s i 4 128 191)) ∧ w' = w := by
  have i0 : (0 : Int) ≤ (i : Int) := by omega
  have i1 : (i : Int) < (s.size : Int) := by omega
  go_enter Try.func20, Try.ntmps20
  go_wp2
  obtain ⟨T, hT⟩ : ∃ T, tailOk s i 3 1 128 191 = T := ⟨_, rfl⟩
  have HT : Hid (tailLen s i 4 128 191 = if T = true then 4 else 0) := by show _ = _; unfold tailLen; rw [show 4 - 1 = 3 from rfl, hT]; rfl
  go_loopw [7, 8, 9] (fun l h kv wr => ∃ (f k : Nat) (lo hi : Int), l = .int .i64 lo ∧ h = .int .i64 hi ∧ kv = .int .i64 k ∧ k + f = 4 ∧ 1 ≤ k ∧ tailOk s i f k lo hi = T ∧ wr = w) (fun _ _ kv _ => 4 - (intOf kv).toNat)
  case atStart => exact ⟨3, 1, 128, 191, rfl, rfl, rfl, rfl, by omega, hT, rfl⟩
  case round =>
    obtain ⟨f, k, lo, hi', rfl, rfl, rfl, hk, k1, ht, hwr⟩ := hrel
    subst wr
    clear hT
    have HI : Hid (i < s.size) := hi
    rcases f with _ | f
    · obtain rfl : k = 4 := by omega
      simp only [tailOk] at ht
      subst ht
      go_wp2
      go_ret
      exact ⟨by rw [HT.out]; rfl, rfl⟩
    · have k2 : (k : Int) < 4 := by omega
      by_cases h : i + k < s.size
      · have e : (((s[i + k]'h).toNat : Nat) : Int) < 256 := by have := (s[i + k]'h).toNat_lt; omega
        simp only [tailOk, dif_pos h] at ht
        obtain ⟨x, hx⟩ : ∃ x : Int, (((s[i + k]'h).toNat : Nat) : Int) = x := ⟨_, rfl⟩
        rw [hx] at ht e
        have x0 : 0 ≤ x := by omega
        have q1 : ¬ (s.size : Int) ≤ (i : Int) + (k : Int) := by omega
        have q2 : (0 : Int) ≤ (i : Int) + (k : Int) := by omega
        have q3 : (i : Int) + (k : Int) < (s.size : Int) := by omega
        have q4 : ((i : Int) + (k : Int)).toNat = i + k := by omega
        have hx' : (((s[((i : Int) + (k : Int)).toNat]'(by omega)).toNat : Nat) : Int) = x := by rw [← hx]; simp only [q4]
        by_cases hl : x < lo
        · rw [if_pos (Or.inl hl)] at ht
          subst ht
          go_wp2
          go_ret
          exact ⟨by rw [HT.out]; rfl, rfl⟩
        · by_cases hh : hi' < x
          · rw [if_pos (Or.inr hh)] at ht
            subst ht
            go_wp2
            go_ret
            exact ⟨by rw [HT.out]; rfl, rfl⟩
          · rw [if_neg (by omega)] at ht
            have HT2 : Hid (tailOk s i f (k + 1) 128 191 = T) := ht
            clear ht
            go_wp2
            go_roundw
            case rel => exact ⟨f, k + 1, 128, 191, rfl, rfl, by go_num, by omega, by omega, HT2.out, by first | rfl | trivial⟩
            case measure => simp [intOf]; omega
      · simp only [tailOk, dif_neg h] at ht
        subst ht
        have q1 : (s.size : Int) ≤ (i : Int) + (k : Int) := by omega
        go_wp2
        go_ret
        exact ⟨by rw [HT.out]; rfl, rfl⟩
set_option maxRecDepth 100000 in
set_option maxHeartbeats 2000000 in
theorem runeH (s : ByteArray) (i : Nat) (w : World) (hi : i < s.size) (hs : s.size ≤ 1048576) (b : Int) (hb : (((s[i]'hi).toNat : Nat) : Int) = b) (b0 : 0 ≤ b) (b1 : b < 256) (c1 : b = 244) :
    Calls Try.prog 20 #[.string s, .int .i64 i] w fun r w' => r = .returned (.int .i64 (tailLen s i 4 128 143)) ∧ w' = w := by
  have i0 : (0 : Int) ≤ (i : Int) := by omega
  have i1 : (i : Int) < (s.size : Int) := by omega
  subst c1
  go_enter Try.func20, Try.ntmps20
  go_wp2
  obtain ⟨T, hT⟩ : ∃ T, tailOk s i 3 1 128 143 = T := ⟨_, rfl⟩
  have HT : Hid (tailLen s i 4 128 143 = if T = true then 4 else 0) := by show _ = _; unfold tailLen; rw [show 4 - 1 = 3 from rfl, hT]; rfl
  go_loopw [7, 8, 9] (fun l h kv wr => ∃ (f k : Nat) (lo hi : Int), l = .int .i64 lo ∧ h = .int .i64 hi ∧ kv = .int .i64 k ∧ k + f = 4 ∧ 1 ≤ k ∧ tailOk s i f k lo hi = T ∧ wr = w) (fun _ _ kv _ => 4 - (intOf kv).toNat)
  case atStart => exact ⟨3, 1, 128, 143, rfl, rfl, rfl, rfl, by omega, hT, rfl⟩
  case round =>
    obtain ⟨f, k, lo, hi', rfl, rfl, rfl, hk, k1, ht, hwr⟩ := hrel
    subst wr
    clear hT
    have HI : Hid (i < s.size) := hi
    rcases f with _ | f
    · obtain rfl : k = 4 := by omega
      simp only [tailOk] at ht
      subst ht
      go_wp2
      go_ret
      exact ⟨by rw [HT.out]; rfl, rfl⟩
    · have k2 : (k : Int) < 4 := by omega
      by_cases h : i + k < s.size
      · have e : (((s[i + k]'h).toNat : Nat) : Int) < 256 := by have := (s[i + k]'h).toNat_lt; omega
        simp only [tailOk, dif_pos h] at ht
        obtain ⟨x, hx⟩ : ∃ x : Int, (((s[i + k]'h).toNat : Nat) : Int) = x := ⟨_, rfl⟩
        rw [hx] at ht e
        have x0 : 0 ≤ x := by omega
        have q1 : ¬ (s.size : Int) ≤ (i : Int) + (k : Int) := by omega
        have q2 : (0 : Int) ≤ (i : Int) + (k : Int) := by omega
        have q3 : (i : Int) + (k : Int) < (s.size : Int) := by omega
        have q4 : ((i : Int) + (k : Int)).toNat = i + k := by omega
        have hx' : (((s[((i : Int) + (k : Int)).toNat]'(by omega)).toNat : Nat) : Int) = x := by rw [← hx]; simp only [q4]
        by_cases hl : x < lo
        · rw [if_pos (Or.inl hl)] at ht
          subst ht
          go_wp2
          go_ret
          exact ⟨by rw [HT.out]; rfl, rfl⟩
        · by_cases hh : hi' < x
          · rw [if_pos (Or.inr hh)] at ht
            subst ht
            go_wp2
            go_ret
            exact ⟨by rw [HT.out]; rfl, rfl⟩
          · rw [if_neg (by omega)] at ht
            have HT2 : Hid (tailOk s i f (k + 1) 128 191 = T) := ht
            clear ht
            go_wp2
            go_roundw
            case rel => exact ⟨f, k + 1, 128, 191, rfl, rfl, by go_num, by omega, by omega, HT2.out, by first | rfl | trivial⟩
            case measure => simp [intOf]; omega
      · simp only [tailOk, dif_neg h] at ht
        subst ht
        have q1 : (s.size : Int) ≤ (i : Int) + (k : Int) := by omega
        go_wp2
        go_ret
        exact ⟨by rw [HT.out]; rfl, rfl⟩
set_option maxRecDepth 100000 in
set_option maxHeartbeats 2000000 in
theorem runeI (s : ByteArray) (i : Nat) (w : World) (hi : i < s.size) (hs : s.size ≤ 1048576) (b : Int) (hb : (((s[i]'hi).toNat : Nat) : Int) = b) (b0 : 0 ≤ b) (b1 : b < 256) (c1 : 194 ≤ b) (c2 : ¬ b ≤ 223) (c3 : 224 ≤ b) (c4 : ¬ b ≤ 239) (c5 : 240 ≤ b) (c6 : ¬ b ≤ 244) :
    Calls Try.prog 20 #[.string s, .int .i64 i] w fun r w' => r = .returned (.int .i64 0) ∧ w' = w := by
  have i0 : (0 : Int) ≤ (i : Int) := by omega
  have i1 : (i : Int) < (s.size : Int) := by omega
  go_enter Try.func20, Try.ntmps20
  go_wp2
  go_ret
  exact ⟨rfl, rfl⟩
/-- The rune's length, whatever the first byte. -/
theorem rune20 (s : ByteArray) (i : Nat) (w : World) (hi : i < s.size) (hs : s.size ≤ 1048576) :
    Calls Try.prog 20 #[.string s, .int .i64 i] w fun r w' => r = .returned (.int .i64 (runeN s i (bt s i 0))) ∧ w' = w := by
  obtain ⟨b, hb⟩ : ∃ b : Nat, bt s i 0 = b := ⟨_, rfl⟩
  have e : (((s[i]'hi).toNat : Nat) : Int) = (b : Int) := by rw [← hb]; exact congrArg Int.ofNat (bt_eq s i 0 hi)
  have b1 : b < 256 := by rw [← hb]; exact bt_lt s i 0
  rw [hb]
  unfold runeN
  by_cases c1 : b < 194
  · rw [if_pos c1]
    exact runeA s i w hi hs b e (by omega) (by omega) (by omega) (by omega) (by omega) (by omega)
  rw [if_neg c1]
  by_cases c2 : b ≤ 223
  · rw [if_pos c2]; exact runeB s i w hi hs b e (by omega) (by omega) (by omega) (by omega)
  rw [if_neg c2]
  by_cases c3 : b = 224
  · rw [if_pos c3]; exact runeC s i w hi hs b e (by omega) (by omega) (by omega)
  rw [if_neg c3]
  by_cases c4 : b = 237
  · rw [if_pos c4]; exact runeE s i w hi hs b e (by omega) (by omega) (by omega)
  rw [if_neg c4]
  by_cases c5 : b ≤ 239
  · rw [if_pos c5]; exact runeD s i w hi hs b e (by omega) (by omega) (by omega) (by omega) (by omega) (by omega) (by omega) (by omega)
  rw [if_neg c5]
  by_cases c6 : b = 240
  · rw [if_pos c6]; exact runeF s i w hi hs b e (by omega) (by omega) (by omega)
  rw [if_neg c6]
  by_cases c7 : b = 244
  · rw [if_pos c7]; exact runeH s i w hi hs b e (by omega) (by omega) (by omega)
  rw [if_neg c7]
  by_cases c8 : b ≤ 243
  · rw [if_pos c8]; exact runeG s i w hi hs b e (by omega) (by omega) (by omega) (by omega) (by omega) (by omega) (by omega) (by omega) (by omega) (by omega)
  rw [if_neg c8]
  exact runeI s i w hi hs b e (by omega) (by omega) (by omega) (by omega) (by omega) (by omega) (by omega) (by omega)
end Go.Proofs.Ytdbmelenlipjoaa
