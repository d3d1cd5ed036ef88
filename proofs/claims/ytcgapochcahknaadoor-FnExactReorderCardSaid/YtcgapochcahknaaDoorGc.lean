/- Contracts of goodCall and of the program's goodInstr: whether an instruction is as said in code of n; conditions: n from 1 to 600, the table of calls holds its names and numbers. -/
import Derived.Test.YtcgapochcahknaaDoorSm2
namespace Go.Proofs.YtcgapochcahknaaDoor
open Go.ChangeShapes Go.WideShapes Go.ChangeAt Go.RowKit
set_option linter.unusedVariables false
def anyNZ (f : Nat → Int) : Nat → Bool
  | 0 => false
  | k + 1 => anyNZ f k || !(f k == 0)
theorem anyNZ_true (f : Nat → Int) (k : Nat) (h : (f k == 0) = false) : ∀ n, k < n → anyNZ f n = true
  | 0, hn => by omega
  | n + 1, hn => by
    rw [anyNZ]
    by_cases e : k = n
    · subst e; rw [h]; simp
    · rw [anyNZ_true f k h n (by omega)]; rfl
set_option maxRecDepth 100000 in
set_option maxHeartbeats 2000000 in
theorem nz76 (x : Int) (w : World) : Calls Tryd.prog 104 #[.int .i64 x] w fun e w' => e = .returned (.bool (!(x == 0))) ∧ w' = w := by
  go_enter Tryd.func104, Tryd.ntmps104
  go_wp2
  go_ret
  exact ⟨rfl, rfl⟩
set_option maxRecDepth 100000 in
set_option maxHeartbeats 2000000 in
theorem idx89 (g o n c : Nat) (f : Nat → Int) (w : World) (hn : n ≤ 3) (hc : ∀ i, i < n → w.cell? ⟨g, o + i, none⟩ = some (.int .i64 (f i))) : Calls Tryd.prog 115 #[.slice (some ⟨g, o, none⟩) n c, .func (.func 104) #[] #[]] w fun e w' => (∃ z : Int, e = .returned (.int .i64 z) ∧ Hid (decide (0 ≤ z) = anyNZ f n)) ∧ w' = w := by
  have HC : Hid (∀ i, i < n → w.cell? ⟨g, o + i, none⟩ = some (.int .i64 (f i))) := hc
  clear hc
  go_enter Tryd.func115, Tryd.ntmps115
  go_wp2
  go_loop [8] (fun i => ∃ k : Nat, k ≤ n ∧ i = .int .i64 k ∧ Hid (anyNZ f k = false)) (fun i => n - (intOf i).toNat)
  case atStart => exact ⟨0, by omega, rfl, rfl⟩
  case round =>
    obtain ⟨k, hk, rfl, HA⟩ := hrel
    by_cases hkn : k < n
    · have i0 : (0 : Int) ≤ (k : Int) := by omega
      have i1 : (k : Int) < (n : Int) := by omega
      have cc := HC.out k hkn
      have hz := fun w => nz76 (f k) w
      cases hx : (f k == 0)
      · rw [hx] at hz
        have HT : Hid (anyNZ f n = true) := anyNZ_true f k hx n hkn
        clear hx
        go_wp2_with (go_at_call 104; refine (hz _).mono ?_; rintro e w' ⟨rfl, hw⟩; subst w')
        go_ret
        exact ⟨⟨k, rfl, by show _ = _; rw [HT.out]; simp⟩, rfl⟩
      · rw [hx] at hz
        have HT : Hid (anyNZ f (k + 1) = false) := by show _ = _; rw [anyNZ, HA.out, hx]; rfl
        clear hx
        go_wp2_with (go_at_call 104; refine (hz _).mono ?_; rintro e w' ⟨rfl, hw⟩; subst w')
        go_round
        case rel => exact ⟨k + 1, by omega, by go_num, HT⟩
        case measure => simp [intOf]; omega
    · have hkk : k = n := by omega
      subst hkk
      go_wp2
      go_ret
      exact ⟨⟨-1, rfl, by show _ = _; rw [HA.out]; rfl⟩, rfl⟩
set_option maxRecDepth 100000 in
set_option maxHeartbeats 2000000 in
theorem contains75 (g o n c : Nat) (f : Nat → Int) (w : World) (hn : n ≤ 3) (hc : ∀ i, i < n → w.cell? ⟨g, o + i, none⟩ = some (.int .i64 (f i))) : Calls Tryd.prog 103 #[.slice (some ⟨g, o, none⟩) n c, .func (.func 104) #[] #[]] w fun e w' => e = .returned (.bool (anyNZ f n)) ∧ w' = w := by
  have h := idx89 g o n c f w hn hc
  clear hc
  go_enter Tryd.func103, Tryd.ntmps103
  go_wp2_with (go_at_call 115; refine h.mono ?_; rintro e w' ⟨⟨z, rfl, hz⟩, hw⟩; subst w')
  go_ret
  exact ⟨by show Ending.returned (.bool (decide (0 ≤ z))) = _; rw [hz.out], rfl⟩
end Go.Proofs.YtcgapochcahknaaDoor
