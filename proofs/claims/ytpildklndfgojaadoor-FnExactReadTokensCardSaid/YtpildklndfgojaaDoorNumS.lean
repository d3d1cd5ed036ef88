/- The model's questions of numbers in texts: l3Digits, l3Whole, l3Float. -/
import Derived.Test.YtpildklndfgojaaDoorTokA
import Derived.Test.YtpildklndfgojaaDoorNum
namespace Go.Proofs.YtpildklndfgojaaDoor.Tk
open Go.ChangeShapes Go.WideShapes Go.ChangeAt Go.RowKit
set_option linter.unusedVariables false
theorem byte_at (s : ByteArray) (k : Nat) (h : k < s.size) : ∃ h' : k < s.data.toList.length, isDig s.data.toList[k] = digB ((bt s k 0 : Nat) : Int) := by
  refine ⟨by simpa using h, ?_⟩
  have e := bt_eq s k 0 (by simpa using h)
  have e2 : (s.data.toList[k]'(by simpa using h)).toNat = bt s k 0 := by rw [← e]; simp; rfl
  unfold isDig digB
  rw [e2, Bool.eq_iff_iff]
  simp
  omega
theorem dlen_from (s : ByteArray) (i j : Nat) (hij : i ≤ j) (hj : j ≤ s.size) (h : ∀ k, i ≤ k → k < j → digB ((bt s k 0 : Nat) : Int) = true) (e : j = s.size ∨ digB ((bt s j 0 : Nat) : Int) = false) : i + dlen (s.data.toList.drop i) = j := by
  have len : s.data.toList.length = s.size := by simp
  have := dlen_at (s.data.toList.drop i) (j - i) (fun k hk => by
    obtain ⟨h', d⟩ := byte_at s (i + k) (by omega)
    refine ⟨by rw [List.length_drop]; omega, ?_⟩
    rw [List.getElem_drop, d]
    exact h _ (by omega) (by omega)) (by
    by_cases g : j = s.size
    · left; rw [List.length_drop, len]; omega
    · right
      obtain ⟨h', d⟩ := byte_at s j (by omega)
      refine ⟨by rw [List.length_drop]; omega, ?_⟩
      rw [List.getElem_drop]
      have e2 : i + (j - i) = j := by omega
      simp only [e2]
      rw [d]
      rcases e with e | e
      · exact absurd e g
      · exact e)
  omega
theorem digits55 (s : ByteArray) (i : Nat) (w : World) (hi : i ≤ s.size) (hs : s.size ≤ 1048576) :
    Calls Tryd.prog 55 #[.string s, .int .i64 i] w fun r w' => r = .returned (.int .i64 ((i + dlen (s.data.toList.drop i) : Nat) : Int)) ∧ w' = w := by
  obtain ⟨R, hR⟩ : ∃ R, i + dlen (s.data.toList.drop i) = R := ⟨_, rfl⟩
  rw [hR]
  have HR : Hid (i + dlen (s.data.toList.drop i) = R) := hR
  clear hR
  have hs' : (s.size : Int) ≤ 1048576 := by omega
  go_enter Tryd.func55, Tryd.ntmps55
  go_wp2
  go_loop [1] (fun iv => ∃ j : Nat, iv = .int .i64 j ∧ i ≤ j ∧ j ≤ s.size ∧ Hid (∀ k, i ≤ k → k < j → digB ((bt s k 0 : Nat) : Int) = true)) (fun iv => s.size - (intOf iv).toNat)
  case atStart => exact ⟨i, rfl, by omega, hi, show ∀ k, i ≤ k → k < i → digB ((bt s k 0 : Nat) : Int) = true from fun k a b => by omega⟩
  case round =>
    obtain ⟨j, rfl, hij, hj, HD⟩ := hrel
    by_cases hlt : j < s.size
    · have i0 : (0 : Int) ≤ (j : Int) := by omega
      have i1 : (j : Int) < (s.size : Int) := by omega
      obtain ⟨b, hb⟩ : ∃ b : Int, ((bt s j 0 : Nat) : Int) = b := ⟨_, rfl⟩
      have hB : (((s[j]'hlt).toNat : Nat) : Int) = b := by rw [← hb]; exact congrArg Int.ofNat (bt_eq s j 0 hlt)
      have b0 : 0 ≤ b := by omega
      have b1 : b < 256 := by have := bt_lt s j 0; omega
      have hdig := digit22 b w b0 b1
      obtain ⟨DB, hD⟩ : ∃ DB, digB b = DB := ⟨_, rfl⟩
      rw [hD] at hdig
      have HDIG : Hid (Calls Tryd.prog 54 #[.int .u8 b] w fun r w' => r = .returned (.bool DB) ∧ w' = w) := hdig
      have HDB : Hid (digB ((bt s j 0 : Nat) : Int) = DB) := by show digB ((bt s j 0 : Nat) : Int) = DB; rw [hb]; exact hD
      have HLT : Hid (j < s.size) := hlt
      clear hdig hD hb
      cases DB
      · go_wp2_with (go_at_call 54; refine (Hid.out HDIG).mono ?_; rintro e w' ⟨rfl, hw⟩; subst w')
        go_ret
        exact ⟨by rw [← HR.out, dlen_from s i j hij hj HD.out (Or.inr HDB.out)]; rfl, rfl⟩
      · go_wp2_with (go_at_call 54; refine (Hid.out HDIG).mono ?_; rintro e w' ⟨rfl, hw⟩; subst w')
        go_round
        case rel =>
          refine ⟨j + 1, by go_num, by omega, by have := HLT.out; omega, ?_⟩
          show ∀ k, i ≤ k → k < j + 1 → digB ((bt s k 0 : Nat) : Int) = true
          intro k a c
          by_cases e : k = j
          · subst e; exact HDB.out
          · exact HD.out k a (by omega)
        case measure => have := HLT.out; simp [intOf]; omega
    · have hlt' : ¬ (j : Int) < (s.size : Int) := by omega
      have hjs : Hid (j = s.size) := (by omega : j = s.size)
      go_wp2
      go_ret
      exact ⟨by rw [← HR.out, dlen_from s i j hij hj HD.out (Or.inl hjs.out)]; rfl, rfl⟩
theorem head_bt (s : ByteArray) (h : 0 < s.size) : (s.data.toList.head? = some 48) ↔ ((bt s 0 0 : Nat) : Int) = 48 := by
  have len : s.data.toList.length = s.size := by simp
  have e := bt_eq s 0 0 (by simpa using h)
  have e2 : (s.data.toList[0]'(by rw [len]; exact h)).toNat = bt s 0 0 := by rw [← e]; simp; rfl
  rw [List.head?_eq_getElem?, List.getElem?_eq_getElem (by rw [len]; exact h)]
  rw [← e2]
  constructor
  · intro q
    rw [Option.some.inj q]
    rfl
  · intro q
    congr 1
    rw [← UInt8.toNat_inj]
    have : (48 : UInt8).toNat = 48 := rfl
    omega
set_option maxHeartbeats 1000000 in
theorem whole56 (s : ByteArray) (w : World) (hs : s.size ≤ 1048576) :
    Calls Tryd.prog 56 #[.string s] w fun r w' => r = .returned (.bool (wholeS s.data.toList)) ∧ w' = w := by
  have len : s.data.toList.length = s.size := by simp
  obtain ⟨R, hR⟩ : ∃ R, wholeS s.data.toList = R := ⟨_, rfl⟩
  rw [hR]
  have hs' : (s.size : Int) ≤ 1048576 := by omega
  have hd := digits55 s 0 w (by omega) hs
  rw [List.drop_zero, Nat.zero_add] at hd
  unfold wholeS at hR
  rw [len] at hR
  by_cases c0 : s.size < 1
  · have c0' : (s.size : Int) < 1 := by omega
    have r0 : R = false := by rw [← hR]; simp; omega
    subst r0
    clear hR hd
    go_enter Tryd.func56, Tryd.ntmps56
    go_wp2
    go_ret
    exact ⟨rfl, rfl⟩
  by_cases c1 : 10 < s.size
  · have c1' : (10 : Int) < (s.size : Int) := by omega
    have c0' : ¬ (s.size : Int) < 1 := by omega
    have r0 : R = false := by rw [← hR]; simp; omega
    subst r0
    clear hR hd
    go_enter Tryd.func56, Tryd.ntmps56
    go_wp2
    go_ret
    exact ⟨rfl, rfl⟩
  have c0' : decide ((s.size : Int) < 1) = false := by simp; omega
  have c1' : decide ((10 : Int) < (s.size : Int)) = false := by simp; omega
  have hlt : 0 < s.size := by omega
  have i1 : (0 : Int) < (s.size : Int) := by omega
  have hH := head_bt s hlt
  obtain ⟨b, hb⟩ : ∃ b : Int, ((bt s 0 0 : Nat) : Int) = b := ⟨_, rfl⟩
  have hB : (((s[0]'hlt).toNat : Nat) : Int) = b := by rw [← hb]; exact congrArg Int.ofNat (bt_eq s 0 0 hlt)
  rw [hb] at hH
  obtain ⟨d, hdl⟩ : ∃ d, dlen s.data.toList = d := ⟨_, rfl⟩
  rw [hdl] at hR hd
  have HD : Hid (Calls Tryd.prog 55 #[.string s, .int .i64 0] w fun r w' => r = .returned (.int .i64 (d : Int)) ∧ w' = w) := hd
  clear hd hdl hb
  by_cases z : 1 < s.size ∧ b = 48
  · have z1 : (1 : Int) < (s.size : Int) := by omega
    obtain ⟨zz, rfl⟩ := z
    have r0 : R = false := by rw [← hR, decide_eq_false (fun q => q.2.2.1 zz (hH.2 rfl))]; rfl
    subst r0
    clear hR hH
    go_enter Tryd.func56, Tryd.ntmps56
    go_wp2
    go_ret
    exact ⟨rfl, rfl⟩
  by_cases dn : d = s.size
  · have dn' : (d : Int) = (s.size : Int) := by omega
    have rr : (decide (s.size < 10) || leB s.data.toList max10) = R := by
      rw [← hR, decide_eq_true (p := 1 ≤ s.size ∧ s.size ≤ 10 ∧ (1 < s.size → s.data.toList.head? ≠ some 48) ∧ d = s.size) ⟨by omega, by omega, fun a e => z ⟨a, hH.1 e⟩, dn⟩, Bool.true_and]
    have RR : Hid ((decide (s.size < 10) || leB s.data.toList max10) = R) := rr
    clear hR rr hH
    by_cases t1 : 1 < s.size
    · have t1' : (1 : Int) < (s.size : Int) := by omega
      have b48 : (b == 48) = false := by simpa using (fun e => z ⟨t1, e⟩ : ¬ b = 48)
      clear z
      by_cases t10 : s.size < 10
      · have t10' : decide ((s.size : Int) < 10) = true := by simp; omega
        go_enter Tryd.func56, Tryd.ntmps56
        go_wp2_with (go_at_call 55; refine (Hid.out HD).mono ?_; rintro e w' ⟨rfl, hw⟩; subst w')
        go_ret
        exact ⟨by rw [← RR.out, decide_eq_true t10]; rfl, rfl⟩
      · have t10' : decide ((s.size : Int) < 10) = false := by simp; omega
        go_enter Tryd.func56, Tryd.ntmps56
        go_wp2_with (go_at_call 55; refine (Hid.out HD).mono ?_; rintro e w' ⟨rfl, hw⟩; subst w')
        go_ret
        exact ⟨by rw [← RR.out, decide_eq_false t10, Bool.false_or]; unfold leB max10; rw [← ByteArray.toList_eq]; rfl, rfl⟩
    · have t1' : decide ((1 : Int) < (s.size : Int)) = false := by simp; omega
      have t10 : s.size < 10 := by omega
      have t10' : decide ((s.size : Int) < 10) = true := by simp; omega
      clear z
      go_enter Tryd.func56, Tryd.ntmps56
      go_wp2_with (go_at_call 55; refine (Hid.out HD).mono ?_; rintro e w' ⟨rfl, hw⟩; subst w')
      go_ret
      exact ⟨by rw [← RR.out, decide_eq_true t10]; rfl, rfl⟩
  · have dn' : ((d : Int) != (s.size : Int)) = true := by simp; omega
    have r0 : R = false := by rw [← hR, decide_eq_false (fun q => dn q.2.2.2)]; rfl
    subst r0
    clear hR hH
    by_cases t1 : 1 < s.size
    · have t1' : (1 : Int) < (s.size : Int) := by omega
      have b48 : (b == 48) = false := by simpa using (fun e => z ⟨t1, e⟩ : ¬ b = 48)
      clear z
      go_enter Tryd.func56, Tryd.ntmps56
      go_wp2_with (go_at_call 55; refine (Hid.out HD).mono ?_; rintro e w' ⟨rfl, hw⟩; subst w')
      go_ret
      exact ⟨rfl, rfl⟩
    · have t1' : decide ((1 : Int) < (s.size : Int)) = false := by simp; omega
      clear z
      go_enter Tryd.func56, Tryd.ntmps56
      go_wp2_with (go_at_call 55; refine (Hid.out HD).mono ?_; rintro e w' ⟨rfl, hw⟩; subst w')
      go_ret
      exact ⟨rfl, rfl⟩
end Go.Proofs.YtpildklndfgojaaDoor.Tk
