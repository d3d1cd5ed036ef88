/- The model's l3Float. -/
import Derived.Test.YtpildklndfgojaaDoorNumG
namespace Go.Proofs.YtpildklndfgojaaDoor.Tk
open Go.ChangeShapes Go.WideShapes Go.ChangeAt Go.RowKit
set_option linter.unusedVariables false
theorem at_bt (s : ByteArray) (k : Nat) (c : UInt8) (h : k < s.size) : (s.data.toList[k]? = some c) ↔ ((bt s k 0 : Nat) : Int) = (c.toNat : Int) := by
  have len : s.data.toList.length = s.size := by simp
  have e := bt_eq s k 0 (by simpa using h)
  have e2 : (s.data.toList[k]'(by rw [len]; exact h)).toNat = bt s k 0 := by rw [← e]; simp; rfl
  rw [List.getElem?_eq_getElem (by rw [len]; exact h), ← e2]
  constructor
  · intro q
    rw [Option.some.inj q]
  · intro q
    congr 1
    rw [← UInt8.toNat_inj]
    omega
set_option maxHeartbeats 1000000 in
theorem float57 (s : ByteArray) (w : World) (hs : s.size ≤ 1048576) :
    Calls Tryd.prog 57 #[.string s] w fun r w' => r = .returned (.bool (floatS s.data.toList)) ∧ w' = w := by
  have len : s.data.toList.length = s.size := by simp
  have kle := dlen_le s.data.toList
  have hd := digits55 s 0 w (by omega) hs
  rw [List.drop_zero, Nat.zero_add] at hd
  obtain ⟨R, hR⟩ : ∃ R, floatS s.data.toList = R := ⟨_, rfl⟩
  rw [hR]
  unfold floatS at hR
  rw [len] at hR kle
  obtain ⟨k, hk⟩ : ∃ k, dlen s.data.toList = k := ⟨_, rfl⟩
  rw [hk] at hR hd kle
  have HD : Hid (Calls Tryd.prog 55 #[.string s, .int .i64 0] w fun r w' => r = .returned (.int .i64 (k : Int)) ∧ w' = w) := hd
  clear hd hk
  have hs' : (s.size : Int) ≤ 1048576 := by omega
  by_cases c1 : k < 1
  · have c1' : decide ((k : Int) < 1) = true := by simp; omega
    have r0 : R = false := by rw [← hR, decide_eq_false (fun q => by omega)]; rfl
    subst r0
    clear hR
    go_enter Tryd.func57, Tryd.ntmps57
    go_wp2_with (go_at_call 55; (with_reducible show Calls Tryd.prog 55 #[_, Value.int IntKind.i64 0] _ _); refine (Hid.out HD).mono ?_; rintro e w' ⟨rfl, hw⟩; subst w')
    go_ret
    exact ⟨rfl, rfl⟩
  have c1' : decide ((k : Int) < 1) = false := by simp; omega
  by_cases c2 : 9 < k
  · have c2' : decide ((9 : Int) < (k : Int)) = true := by simp; omega
    have r0 : R = false := by rw [← hR, decide_eq_false (fun q => by omega)]; rfl
    subst r0
    clear hR
    go_enter Tryd.func57, Tryd.ntmps57
    go_wp2_with (go_at_call 55; (with_reducible show Calls Tryd.prog 55 #[_, Value.int IntKind.i64 0] _ _); refine (Hid.out HD).mono ?_; rintro e w' ⟨rfl, hw⟩; subst w')
    go_ret
    exact ⟨rfl, rfl⟩
  have c2' : decide ((9 : Int) < (k : Int)) = false := by simp; omega
  have hlt : 0 < s.size := by omega
  have i1 : (0 : Int) < (s.size : Int) := by omega
  have hH := head_bt s hlt
  obtain ⟨b, hb⟩ : ∃ b : Int, ((bt s 0 0 : Nat) : Int) = b := ⟨_, rfl⟩
  have hB : (((s[0]'hlt).toNat : Nat) : Int) = b := by rw [← hb]; exact congrArg Int.ofNat (bt_eq s 0 0 hlt)
  rw [hb] at hH
  clear hb
  by_cases z : 1 < k ∧ b = 48
  · have z1 : decide ((1 : Int) < (k : Int)) = true := by simp; omega
    obtain ⟨zz, rfl⟩ := z
    have r0 : R = false := by rw [← hR, decide_eq_false (fun q => q.2.2.1 zz (hH.2 rfl))]; rfl
    subst r0
    clear hR hH
    go_enter Tryd.func57, Tryd.ntmps57
    go_wp2_with (go_at_call 55; (with_reducible show Calls Tryd.prog 55 #[_, Value.int IntKind.i64 0] _ _); refine (Hid.out HD).mono ?_; rintro e w' ⟨rfl, hw⟩; subst w')
    go_ret
    exact ⟨rfl, rfl⟩
  obtain ⟨Z, hZ⟩ : ∃ Z : Bool, decide ((1 : Int) < (k : Int)) = Z := ⟨_, rfl⟩
  have zb : Z = true → (b == 48) = false := fun e => by
    rw [e] at hZ
    have : 1 < k := by simp at hZ; omega
    simpa using fun f => z ⟨this, f⟩
  have NZ : Hid (1 < k → s.data.toList.head? ≠ some 48) := (fun a e => z ⟨a, hH.1 e⟩ : 1 < k → s.data.toList.head? ≠ some 48)
  clear hH z
  by_cases c3 : k < s.size
  case neg =>
    have c3' : decide ((s.size : Int) ≤ (k : Int)) = true := by simp; omega
    have r0 : R = false := by rw [← hR, decide_eq_false (fun q => by omega)]; rfl
    subst r0
    clear hR
    cases Z
    · clear zb
      go_enter Tryd.func57, Tryd.ntmps57
      go_wp2_with (go_at_call 55; (with_reducible show Calls Tryd.prog 55 #[_, Value.int IntKind.i64 0] _ _); refine (Hid.out HD).mono ?_; rintro e w' ⟨rfl, hw⟩; subst w')
      go_ret
      exact ⟨rfl, rfl⟩
    · have zb' := zb rfl
      clear zb
      go_enter Tryd.func57, Tryd.ntmps57
      go_wp2_with (go_at_call 55; (with_reducible show Calls Tryd.prog 55 #[_, Value.int IntKind.i64 0] _ _); refine (Hid.out HD).mono ?_; rintro e w' ⟨rfl, hw⟩; subst w')
      go_ret
      exact ⟨rfl, rfl⟩
  have c3' : decide ((s.size : Int) ≤ (k : Int)) = false := by simp; omega
  have k0 : (0 : Int) ≤ (k : Int) := by omega
  have k1 : (k : Int) < (s.size : Int) := by omega
  have hP := at_bt s k 46 c3
  obtain ⟨p, hp⟩ : ∃ p : Int, ((bt s k 0 : Nat) : Int) = p := ⟨_, rfl⟩
  have hPB : (((s[k]'c3).toNat : Nat) : Int) = p := by rw [← hp]; exact congrArg Int.ofNat (bt_eq s k 0 c3)
  rw [hp, show ((46 : UInt8).toNat : Int) = 46 from rfl] at hP
  clear hp
  by_cases c4 : p = 46
  case neg =>
    have c4' : (p != 46) = true := by simpa using c4
    have r0 : R = false := by rw [← hR, decide_eq_false (fun q => c4 (hP.1 q.2.2.2.2))]; rfl
    subst r0
    clear hR hP
    cases Z
    · clear zb
      go_enter Tryd.func57, Tryd.ntmps57
      go_wp2_with (go_at_call 55; (with_reducible show Calls Tryd.prog 55 #[_, Value.int IntKind.i64 0] _ _); refine (Hid.out HD).mono ?_; rintro e w' ⟨rfl, hw⟩; subst w')
      go_ret
      exact ⟨rfl, rfl⟩
    · have zb' := zb rfl
      clear zb
      go_enter Tryd.func57, Tryd.ntmps57
      go_wp2_with (go_at_call 55; (with_reducible show Calls Tryd.prog 55 #[_, Value.int IntKind.i64 0] _ _); refine (Hid.out HD).mono ?_; rintro e w' ⟨rfl, hw⟩; subst w')
      go_ret
      exact ⟨rfl, rfl⟩
  have c4' : (p != 46) = false := by simpa using c4
  rw [decide_eq_true (p := 1 ≤ k ∧ k ≤ 9 ∧ (1 < k → s.data.toList.head? ≠ some 48) ∧ k < s.size ∧ s.data.toList[k]? = some 46) ⟨by omega, by omega, NZ.out, c3, hP.2 c4⟩, Bool.true_and] at hR
  clear hP
  subst c4
  have hd2 := digits55 s (k + 1) w (by omega) hs
  obtain ⟨j, hj⟩ : ∃ j, k + 1 + dlen (s.data.toList.drop (k + 1)) = j := ⟨_, rfl⟩
  rw [hj] at hd2 hR
  have HD2 : Hid (Calls Tryd.prog 55 #[.string s, .int .i64 ((k : Int) + 1)] w fun r w' => r = .returned (.int .i64 (j : Int)) ∧ w' = w) := hd2
  clear hd2 hj
  by_cases c5 : 1 ≤ s.size - k - 1
  case neg =>
    have c5' : decide ((1 : Int) ≤ (s.size : Int) - (k : Int) - 1) = false := by simp; omega
    have r0 : R = false := by rw [← hR, decide_eq_false (fun q => c5 q.1)]
    subst r0
    clear hR
    cases Z
    · clear zb
      go_enter Tryd.func57, Tryd.ntmps57
      go_wp2_with (go_at_call 55; (with_reducible show Calls Tryd.prog 55 #[_, Value.int IntKind.i64 0] _ _); refine (Hid.out HD).mono ?_; rintro e w' ⟨rfl, hw⟩; subst w')
      go_ret
      exact ⟨rfl, rfl⟩
    · have zb' := zb rfl
      clear zb
      go_enter Tryd.func57, Tryd.ntmps57
      go_wp2_with (go_at_call 55; (with_reducible show Calls Tryd.prog 55 #[_, Value.int IntKind.i64 0] _ _); refine (Hid.out HD).mono ?_; rintro e w' ⟨rfl, hw⟩; subst w')
      go_ret
      exact ⟨rfl, rfl⟩
  have c5' : decide ((1 : Int) ≤ (s.size : Int) - (k : Int) - 1) = true := by simp; omega
  by_cases c6 : s.size - k - 1 ≤ 9
  case neg =>
    have c6' : decide ((s.size : Int) - (k : Int) - 1 ≤ 9) = false := by simp; omega
    have r0 : R = false := by rw [← hR, decide_eq_false (fun q => c6 q.2.1)]
    subst r0
    clear hR
    cases Z
    · clear zb
      go_enter Tryd.func57, Tryd.ntmps57
      go_wp2_with (go_at_call 55; (with_reducible show Calls Tryd.prog 55 #[_, Value.int IntKind.i64 0] _ _); refine (Hid.out HD).mono ?_; rintro e w' ⟨rfl, hw⟩; subst w')
      go_ret
      exact ⟨rfl, rfl⟩
    · have zb' := zb rfl
      clear zb
      go_enter Tryd.func57, Tryd.ntmps57
      go_wp2_with (go_at_call 55; (with_reducible show Calls Tryd.prog 55 #[_, Value.int IntKind.i64 0] _ _); refine (Hid.out HD).mono ?_; rintro e w' ⟨rfl, hw⟩; subst w')
      go_ret
      exact ⟨rfl, rfl⟩
  have c6' : decide ((s.size : Int) - (k : Int) - 1 ≤ 9) = true := by simp; omega
  by_cases c7 : j = s.size
  · have c7' : ((j : Int) == (s.size : Int)) = true := by simp; omega
    have r0 : R = true := by rw [← hR, decide_eq_true (p := 1 ≤ s.size - k - 1 ∧ s.size - k - 1 ≤ 9 ∧ j = s.size) ⟨c5, c6, c7⟩]
    subst r0
    clear hR
    cases Z
    · clear zb
      go_enter Tryd.func57, Tryd.ntmps57
      go_wp2_with (first | (go_at_call 55; (with_reducible show Calls Tryd.prog 55 #[_, Value.int IntKind.i64 0] _ _); refine (Hid.out HD).mono ?_; rintro e w' ⟨rfl, hw⟩; subst w') | (go_at_call 55; refine (Hid.out HD2).mono ?_; rintro e w' ⟨rfl, hw⟩; subst w'))
      go_ret
      exact ⟨rfl, rfl⟩
    · have zb' := zb rfl
      clear zb
      go_enter Tryd.func57, Tryd.ntmps57
      go_wp2_with (first | (go_at_call 55; (with_reducible show Calls Tryd.prog 55 #[_, Value.int IntKind.i64 0] _ _); refine (Hid.out HD).mono ?_; rintro e w' ⟨rfl, hw⟩; subst w') | (go_at_call 55; refine (Hid.out HD2).mono ?_; rintro e w' ⟨rfl, hw⟩; subst w'))
      go_ret
      exact ⟨rfl, rfl⟩
  · have c7' : ((j : Int) == (s.size : Int)) = false := by simp; omega
    have r0 : R = false := by rw [← hR, decide_eq_false (fun q => c7 q.2.2)]
    subst r0
    clear hR
    cases Z
    · clear zb
      go_enter Tryd.func57, Tryd.ntmps57
      go_wp2_with (first | (go_at_call 55; (with_reducible show Calls Tryd.prog 55 #[_, Value.int IntKind.i64 0] _ _); refine (Hid.out HD).mono ?_; rintro e w' ⟨rfl, hw⟩; subst w') | (go_at_call 55; refine (Hid.out HD2).mono ?_; rintro e w' ⟨rfl, hw⟩; subst w'))
      go_ret
      exact ⟨rfl, rfl⟩
    · have zb' := zb rfl
      clear zb
      go_enter Tryd.func57, Tryd.ntmps57
      go_wp2_with (first | (go_at_call 55; (with_reducible show Calls Tryd.prog 55 #[_, Value.int IntKind.i64 0] _ _); refine (Hid.out HD).mono ?_; rintro e w' ⟨rfl, hw⟩; subst w') | (go_at_call 55; refine (Hid.out HD2).mono ?_; rintro e w' ⟨rfl, hw⟩; subst w'))
      go_ret
      exact ⟨rfl, rfl⟩
end Go.Proofs.YtpildklndfgojaaDoor.Tk
