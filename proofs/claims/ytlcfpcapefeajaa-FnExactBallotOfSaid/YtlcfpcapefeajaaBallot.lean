/- Contracts of BallotOf, of the program and of its model, over rows of at most 2^20. -/
import Derived.Test.YtlcfpcapefeajaaCopy
namespace Go.Proofs.Ytlcfpcapefeajaa
open Go.ChangeShapes Go.WideShapes Go.ChangeAt Go.RowKit
def bal (f : Nat → Bool) : Nat → Int
  | 0 => 0
  | k + 1 => if f k then bits .or .i64 (bal f k) (wrap64 (2 ^ k)) else bal f k

set_option maxHeartbeats 1000000 in
theorem bal11 (n a ca : Nat) (f : Nat → Bool) (w : World) (hn : n ≤ 16) (ha : ∀ i, i < n → w.cell? ⟨a, i, none⟩ = some (.bool (f i))) :
    Calls Try.prog 11 #[.slice (some ⟨a, 0, none⟩) n ca] w fun r w' => r = .returned (.int .i64 (bal f n)) ∧ w' = w := by
  have HA : Hid (∀ i, i < n → w.cell? ⟨a, i, none⟩ = some (.bool (f i))) := ha
  clear ha
  go_enter Try.func11, Try.ntmps11
  go_wp2
  go_loopw [3, 11] (fun m i wx => ∃ k : Nat, k ≤ n ∧ i = .int .i64 k ∧ m = .int .i64 (bal f k) ∧ wx = w) (fun _ i _ => n - (intOf i).toNat)
  case atStart => exact ⟨0, by omega, rfl, rfl, rfl⟩
  case round =>
    obtain ⟨k, hk, rfl, rfl, rfl⟩ := hrel
    by_cases hkn : k < n
    · have c1 := HA.out k hkn
      have i0 : (0 : Int) ≤ (k : Int) := by omega
      have i1 : (k : Int) < (n : Int) := by omega
      obtain ⟨M, hM⟩ : ∃ M, bal f k = M := ⟨_, rfl⟩
      rw [hM]
      have HM : Hid (bal f k = M) := hM
      clear hM
      cases hf : f k
      · rw [hf] at c1
        have HF : Hid (f k = false) := hf
        clear hf
        go_wp2
        go_roundw
        case rel => exact ⟨k + 1, by omega, by go_num, by show _ = Value.int _ (if f k then _ else _); rw [HF.out, HM.out]; rfl, trivial⟩
        case measure => simp [intOf]; omega
      · rw [hf] at c1
        have HF : Hid (f k = true) := hf
        clear hf
        go_wp2
        go_roundw
        case rel => exact ⟨k + 1, by omega, by go_num, by show _ = Value.int _ (if f k then _ else _); rw [HF.out, HM.out]; rfl, trivial⟩
        case measure => simp [intOf]; omega
    · have hkk : k = n := by omega
      subst hkk
      go_wp2
      go_ret
      exact ⟨rfl, rfl⟩
theorem bal11x (n : Nat) (a : Option Addr) (ca : Nat) (w : World) (hn : 16 < n) (hm : n ≤ 1048576) :
    Calls Try.prog 11 #[.slice a n ca] w fun r w' => r = .returned (.int .i64 0) ∧ w' = w := by
  go_enter Try.func11, Try.ntmps11
  go_wp2
  go_ret
  exact ⟨rfl, rfl⟩

set_option maxHeartbeats 1000000 in
theorem bal13 (n a ca : Nat) (f : Nat → Bool) (w : World) (hn : n ≤ 16) (ha : ∀ i, i < n → w.cell? ⟨a, i, none⟩ = some (.bool (f i))) :
    Calls Try.prog 13 #[.slice (some ⟨a, 0, none⟩) n ca] w fun r w' => r = .returned (.int .i64 (bal f n)) ∧ w' = w := by
  have HA : Hid (∀ i, i < n → w.cell? ⟨a, i, none⟩ = some (.bool (f i))) := ha
  clear ha
  go_enter Try.func13, Try.ntmps13
  go_wp2
  go_loopw [3, 11] (fun m i wx => ∃ k : Nat, k ≤ n ∧ i = .int .i64 k ∧ m = .int .i64 (bal f k) ∧ wx = w) (fun _ i _ => n - (intOf i).toNat)
  case atStart => exact ⟨0, by omega, rfl, rfl, rfl⟩
  case round =>
    obtain ⟨k, hk, rfl, rfl, rfl⟩ := hrel
    by_cases hkn : k < n
    · have c1 := HA.out k hkn
      have i0 : (0 : Int) ≤ (k : Int) := by omega
      have i1 : (k : Int) < (n : Int) := by omega
      obtain ⟨M, hM⟩ : ∃ M, bal f k = M := ⟨_, rfl⟩
      rw [hM]
      have HM : Hid (bal f k = M) := hM
      clear hM
      cases hf : f k
      · rw [hf] at c1
        have HF : Hid (f k = false) := hf
        clear hf
        go_wp2
        go_roundw
        case rel => exact ⟨k + 1, by omega, by go_num, by show _ = Value.int _ (if f k then _ else _); rw [HF.out, HM.out]; rfl, trivial⟩
        case measure => simp [intOf]; omega
      · rw [hf] at c1
        have HF : Hid (f k = true) := hf
        clear hf
        go_wp2
        go_roundw
        case rel => exact ⟨k + 1, by omega, by go_num, by show _ = Value.int _ (if f k then _ else _); rw [HF.out, HM.out]; rfl, trivial⟩
        case measure => simp [intOf]; omega
    · have hkk : k = n := by omega
      subst hkk
      go_wp2
      go_ret
      exact ⟨rfl, rfl⟩
theorem bal13x (n : Nat) (a : Option Addr) (ca : Nat) (w : World) (hn : 16 < n) (hm : n ≤ 1048576) :
    Calls Try.prog 13 #[.slice a n ca] w fun r w' => r = .returned (.int .i64 0) ∧ w' = w := by
  go_enter Try.func13, Try.ntmps13
  go_wp2
  go_ret
  exact ⟨rfl, rfl⟩

def balN (f : Nat → Bool) (n : Nat) : Int := if 16 < n then 0 else bal f n
theorem balS (n a ca : Nat) (f : Nat → Bool) (w : World) (hn : n ≤ 1048576) (ha : ∀ i, i < n → w.cell? ⟨a, i, none⟩ = some (.bool (f i))) :
    Calls Try.prog 11 #[.slice (some ⟨a, 0, none⟩) n ca] w fun r w' => r = .returned (.int .i64 (balN f n)) ∧ w' = w := by
  unfold balN
  by_cases h : 16 < n
  · rw [if_pos h]; exact bal11x n _ ca w h hn
  · rw [if_neg h]; exact bal11 n a ca f w (by omega) ha
theorem balI (n a ca : Nat) (f : Nat → Bool) (w : World) (hn : n ≤ 1048576) (ha : ∀ i, i < n → w.cell? ⟨a, i, none⟩ = some (.bool (f i))) :
    Calls Try.prog 13 #[.slice (some ⟨a, 0, none⟩) n ca] w fun r w' => r = .returned (.int .i64 (balN f n)) ∧ w' = w := by
  unfold balN
  by_cases h : 16 < n
  · rw [if_pos h]; exact bal13x n _ ca w h hn
  · rw [if_neg h]; exact bal13 n a ca f w (by omega) ha
end Go.Proofs.Ytlcfpcapefeajaa
