/- Contracts of the runs of names: the model's l3Run from 0 on, the program's nameAhead, isBroken and what it calls; conditions: texts at most 2^20 long. -/
import Derived.Test.YtdbmelenlipjoaaName
namespace Go.Proofs.Ytdbmelenlipjoaa
open Go.ChangeShapes Go.WideShapes Go.ChangeAt Go.RowKit
set_option linter.unusedVariables false
theorem of_dec {p : Prop} [Decidable p] {b : Bool} (h : decide p = b) : if b then p else ¬ p := by cases b <;> simpa using h
theorem step_zero (s : ByteArray) (i r : Nat) (h : i < s.size) (b : Int) (hb : ((bt s i 0 : Nat) : Int) = b) (h1 : b < 128) : stepN s i (decide (r = 0)) = if (letB b || (digB b && decide (0 < (r : Int)))) = true then 1 else 0 := by
  unfold stepN
  rw [if_neg (by omega), hb]
  have e : (!decide (r = 0)) = decide (0 < (r : Int)) := by
    rw [Bool.eq_iff_iff]; simp; omega
  rw [e]
set_option maxRecDepth 100000 in
set_option maxHeartbeats 2000000 in
theorem run16 (s : ByteArray) (w : World) (hs : s.size ≤ 1048576) :
    Calls Try.prog 16 #[.string s, .int .i64 0] w fun r w' => r = .returned (.tuple #[.int .i64 ((nameRun s s.size 0 0).1 : Nat), .int .i64 ((nameRun s s.size 0 0).2 : Nat)]) ∧ w' = w := by
  obtain ⟨R, hR⟩ : ∃ R, nameRun s s.size 0 0 = R := ⟨_, rfl⟩
  rw [hR]
  have HR0 : Hid (nameRun s s.size 0 0 = R) := hR
  clear hR
  have hs' : (s.size : Int) ≤ 1048576 := by omega
  go_enter Try.func16, Try.ntmps16
  go_wp2
  go_loop [1, 6] (fun iv rv => ∃ f i r : Nat, iv = .int .i64 i ∧ rv = .int .i64 r ∧ i ≤ s.size ∧ r ≤ i ∧ s.size ≤ i + f ∧ Hid (nameRun s f i r = R)) (fun iv _ => s.size - (intOf iv).toNat)
  case atStart => exact ⟨s.size, 0, 0, rfl, rfl, by omega, by omega, by omega, HR0⟩
  case round =>
    obtain ⟨f, i, r, rfl, rfl, hi, hr, hf, HR⟩ := hrel
    by_cases hlt : i < s.size
    · obtain ⟨f, rfl⟩ : ∃ g, f = g + 1 := ⟨f - 1, by omega⟩
      have hl := step_le s i (decide (r = 0)) hlt
      have i0 : (0 : Int) ≤ (i : Int) := by omega
      have i1 : (i : Int) < (s.size : Int) := by omega
      obtain ⟨b, hb⟩ : ∃ b : Int, ((bt s i 0 : Nat) : Int) = b := ⟨_, rfl⟩
      have hB : (((s[i]'hlt).toNat : Nat) : Int) = b := by rw [← hb]; exact congrArg Int.ofNat (bt_eq s i 0 hlt)
      have b0 : 0 ≤ b := by omega
      have b1 : b < 256 := by have := bt_lt s i 0; omega
      obtain ⟨N, hN⟩ : ∃ N, stepN s i (decide (r = 0)) = N := ⟨_, rfl⟩
      rw [hN] at hl
      have HS : Hid (if N = 0 then (i, r) = R else nameRun s f (i + N) (r + 1) = R) := by
        show if N = 0 then (i, r) = R else nameRun s f (i + N) (r + 1) = R
        have h := HR.out
        rw [nameRun, if_pos hlt, hN] at h
        split
        · rename_i h0; rw [if_pos h0] at h; exact h
        · rename_i h0; rw [if_neg h0] at h; exact h
      by_cases h128 : 128 ≤ b
      · have eN : runeN s i (bt s i 0) = (N : Int) := by
          have h1 := (rune_decode s i (by omega)).1
          have h2 : 0 ≤ runeN s i (bt s i 0) := by rw [h1]; split <;> omega
          rw [← hN]; unfold stepN; rw [if_pos (by omega)]; omega
        have hrun := rune20 s i w hlt hs
        rw [eN] at hrun
        have HRUN : Hid (Calls Try.prog 20 #[.string s, .int .i64 i] w fun r w' => r = .returned (.int .i64 (N : Int)) ∧ w' = w) := hrun
        have HLT : Hid (i < s.size) := hlt
        clear hrun eN hN hb
        by_cases n0 : N = 0
        · subst n0
          have HE : Hid ((i, r) = R) := by have := HS.out; rw [if_pos rfl] at this; exact this
          clear HS
          go_wp2_with (go_at_call 20; refine (Hid.out HRUN).mono ?_; rintro e w' ⟨rfl, hw⟩; subst w')
          go_ret2
          exact ⟨by rw [← HE.out]; rfl, rfl⟩
        · have HE : Hid (nameRun s f (i + N) (r + 1) = R) := by have := HS.out; rw [if_neg n0] at this; exact this
          have n0' : ¬ (N : Int) = 0 := by omega
          clear HS
          go_wp2_with (go_at_call 20; refine (Hid.out HRUN).mono ?_; rintro e w' ⟨rfl, hw⟩; subst w')
          go_round
          case rel => exact ⟨f, i + N, r + 1, by go_num, by go_num, by omega, by omega, by omega, HE⟩
          case measure => simp [intOf]; omega
      · have eN : N = if (letB b || (digB b && decide (0 < (r : Int)))) = true then 1 else 0 := by rw [← hN]; exact step_zero s i r hlt b hb (by omega)
        have hlet := letter21 b w b0 b1
        have hdig := digit22 b w b0 b1
        obtain ⟨L, hL⟩ : ∃ L, letB b = L := ⟨_, rfl⟩
        obtain ⟨D, hD⟩ : ∃ D, digB b = D := ⟨_, rfl⟩
        rw [hL] at eN hlet
        rw [hD] at eN hdig
        have HLET : Hid (Calls Try.prog 21 #[.int .u8 b] w fun r w' => r = .returned (.bool L) ∧ w' = w) := hlet
        have HDIG : Hid (Calls Try.prog 22 #[.int .u8 b] w fun r w' => r = .returned (.bool D) ∧ w' = w) := hdig
        have EN : Hid (N = if (L || (D && decide (0 < (r : Int)))) = true then 1 else 0) := eN
        clear hlet hdig hL hD hN hb eN
        obtain ⟨P, hP⟩ : ∃ P, decide (0 < r) = P := ⟨_, rfl⟩
        have eP : decide ((0 : Int) < (r : Int)) = P := by rw [← hP, Bool.eq_iff_iff]; simp
        have EP : Hid (decide ((0 : Int) < (r : Int)) = P) := eP
        clear eP
        cases P <;> cases L <;> cases D
        all_goals
          have en := EN.out
          rw [EP.out] at en
          have r0 := of_dec hP
          simp only [if_true, Bool.false_eq_true, if_false] at r0
          simp at en
          subst en
          clear EN
          first
          | (have HE : Hid ((i, r) = R) := by have := HS.out; rw [if_pos rfl] at this; exact this
             clear HS
             go_wp2_with (first | (go_at_call 21; refine (Hid.out HLET).mono ?_; rintro e w' ⟨rfl, hw⟩; subst w') | (go_at_call 22; refine (Hid.out HDIG).mono ?_; rintro e w' ⟨rfl, hw⟩; subst w'))
             go_ret2
             exact ⟨by rw [← HE.out]; rfl, rfl⟩)
          | (have HE : Hid (nameRun s f (i + 1) (r + 1) = R) := by have := HS.out; rw [if_neg (by decide)] at this; exact this
             clear HS
             go_wp2_with (first | (go_at_call 21; refine (Hid.out HLET).mono ?_; rintro e w' ⟨rfl, hw⟩; subst w') | (go_at_call 22; refine (Hid.out HDIG).mono ?_; rintro e w' ⟨rfl, hw⟩; subst w'))
             go_round
             case rel => exact ⟨f, i + 1, r + 1, by go_num, by go_num, by omega, by omega, by omega, HE⟩
             case measure => simp [intOf]; omega)
    · have hii : i = s.size := by omega
      have HE : Hid ((i, r) = R) := by have := HR.out; rw [nameRun_end s f i r hlt] at this; exact this
      have hlt' : ¬ (i : Int) < (s.size : Int) := by omega
      clear hii
      go_wp2
      go_ret2
      exact ⟨by rw [← HE.out]; rfl, rfl⟩
end Go.Proofs.Ytdbmelenlipjoaa
