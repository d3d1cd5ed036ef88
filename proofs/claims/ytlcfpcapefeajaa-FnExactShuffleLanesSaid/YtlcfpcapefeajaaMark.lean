/- Contracts of the laws' marks (markUint32S, markIntS, heldUint32S); conditions: the row is one that the law itself made, at most 2^20 long. -/
import Derived.Test.YtlcfpcapefeajaaView
namespace Go.Proofs.Ytlcfpcapefeajaa
open Go.ChangeShapes Go.WideShapes Go.ChangeAt Go.RowKit

set_option maxHeartbeats 1000000 in
theorem mark21 {n a : Nat} {f : Nat → Value} {w : World} (O : Own w a n f) (ca k0 : Nat) (hn : n ≤ 1048576) (hk0 : k0 ≤ 1048577) :
    Calls Try.prog 21 #[.slice (some ⟨a, 0, none⟩) n ca, .int .i64 k0] w fun r w' => r = .returned (.int .i64 ((k0 + n : Nat) : Int)) ∧ Own w' a n (fun i => .int .u32 ((k0 + i : Nat) : Int)) ∧ Only a w w' := by
  go_enter Try.func21, Try.ntmps21
  go_wp2
  go_loopw [1, 5] (fun q i wr => ∃ k : Nat, k ≤ n ∧ i = .int .i64 k ∧ q = .int .i64 ((k0 + k : Nat) : Int) ∧ Own wr a n (fun j => if j < k then .int .u32 ((k0 + j : Nat) : Int) else f j) ∧ Only a w wr) (fun _ i _ => n - (intOf i).toNat)
  case atStart => exact ⟨0, by omega, rfl, rfl, O.mono (Nat.le_refl _) (fun j _ => by simp), Only.refl _ _⟩
  case round =>
    obtain ⟨k, hk, rfl, rfl, OK, BK⟩ := hrel
    by_cases hkn : k < n
    · have i1 : (k : Int) < (n : Int) := by omega
      have i0 : (0 : Int) ≤ (k : Int) := by omega
      obtain ⟨s, hs⟩ : ∃ s : Nat, k0 + k = s := ⟨_, rfl⟩
      rw [hs]
      have s1 : (s : Int) < 4294967296 := by omega
      have s0 : (0 : Int) ≤ (s : Int) := by omega
      have HS : Hid (k0 + k = s) := hs
      clear hs
      have f0 := OK.free k
      have g0 : wr.cell? ⟨a, k, none⟩ = some (f k) := by have := OK.cell k hkn; simpa using this
      go_wp2
      go_roundw
      case rel => exact ⟨k + 1, by omega, by go_num, by have := HS.out; rw [show k0 + (k + 1) = s + 1 by omega]; go_num, OK.set k _ hkn (fun j _ => by have hs := HS.out; by_cases e1 : j = k; (subst e1; rw [hs]; simp); rw [if_neg e1]; by_cases e2 : j < k; rw [if_pos e2, if_pos (by omega)]; rw [if_neg e2, if_neg (by omega)]), BK.setCell _ _⟩
      case measure => simp [intOf]; omega
    · have hkk : k = n := by omega
      subst hkk
      go_wp2
      go_ret
      exact ⟨rfl, OK.mono (Nat.le_refl _) (fun j hj => by simp [hj]), BK⟩
theorem mark21n (a : Option Addr) (ca : Nat) (k : Int) (w : World) :
    Calls Try.prog 21 #[.slice a 0 ca, .int .i64 k] w fun r w' => r = .returned (.int .i64 k) ∧ w' = w := by
  go_enter Try.func21, Try.ntmps21
  go_wp2
  refine wp_loop_rounds 1 ?_
  rw [rounds_succ]
  go_wp2
  go_ret
  exact ⟨rfl, rfl⟩

set_option maxHeartbeats 1000000 in
theorem mark22 {n a : Nat} {f : Nat → Value} {w : World} (O : Own w a n f) (ca k0 : Nat) (hn : n ≤ 1048576) (hk0 : k0 ≤ 1048577) :
    Calls Try.prog 22 #[.slice (some ⟨a, 0, none⟩) n ca, .int .i64 k0] w fun r w' => r = .returned (.int .i64 ((k0 + n : Nat) : Int)) ∧ Own w' a n (fun i => .int .i64 ((k0 + i : Nat) : Int)) ∧ Only a w w' := by
  go_enter Try.func22, Try.ntmps22
  go_wp2
  go_loopw [1, 5] (fun q i wr => ∃ k : Nat, k ≤ n ∧ i = .int .i64 k ∧ q = .int .i64 ((k0 + k : Nat) : Int) ∧ Own wr a n (fun j => if j < k then .int .i64 ((k0 + j : Nat) : Int) else f j) ∧ Only a w wr) (fun _ i _ => n - (intOf i).toNat)
  case atStart => exact ⟨0, by omega, rfl, rfl, O.mono (Nat.le_refl _) (fun j _ => by simp), Only.refl _ _⟩
  case round =>
    obtain ⟨k, hk, rfl, rfl, OK, BK⟩ := hrel
    by_cases hkn : k < n
    · have i1 : (k : Int) < (n : Int) := by omega
      have i0 : (0 : Int) ≤ (k : Int) := by omega
      obtain ⟨s, hs⟩ : ∃ s : Nat, k0 + k = s := ⟨_, rfl⟩
      rw [hs]
      have s1 : (s : Int) < 4294967296 := by omega
      have s0 : (0 : Int) ≤ (s : Int) := by omega
      have HS : Hid (k0 + k = s) := hs
      clear hs
      have f0 := OK.free k
      have g0 : wr.cell? ⟨a, k, none⟩ = some (f k) := by have := OK.cell k hkn; simpa using this
      go_wp2
      go_roundw
      case rel => exact ⟨k + 1, by omega, by go_num, by have := HS.out; rw [show k0 + (k + 1) = s + 1 by omega]; go_num, OK.set k _ hkn (fun j _ => by have hs := HS.out; by_cases e1 : j = k; (subst e1; rw [hs]; simp); rw [if_neg e1]; by_cases e2 : j < k; rw [if_pos e2, if_pos (by omega)]; rw [if_neg e2, if_neg (by omega)]), BK.setCell _ _⟩
      case measure => simp [intOf]; omega
    · have hkk : k = n := by omega
      subst hkk
      go_wp2
      go_ret
      exact ⟨rfl, OK.mono (Nat.le_refl _) (fun j hj => by simp [hj]), BK⟩
theorem mark22n (a : Option Addr) (ca : Nat) (k : Int) (w : World) :
    Calls Try.prog 22 #[.slice a 0 ca, .int .i64 k] w fun r w' => r = .returned (.int .i64 k) ∧ w' = w := by
  go_enter Try.func22, Try.ntmps22
  go_wp2
  refine wp_loop_rounds 1 ?_
  rw [rounds_succ]
  go_wp2
  go_ret
  exact ⟨rfl, rfl⟩

set_option maxHeartbeats 1000000 in
theorem held23 {n a : Nat} {w : World} (ca k0 : Nat) (O : Own w a n (fun i => .int .u32 ((k0 + i : Nat) : Int))) (hn : n ≤ 1048576) (hk0 : k0 ≤ 1048577) :
    Calls Try.prog 23 #[.slice (some ⟨a, 0, none⟩) n ca, .int .i64 k0] w fun r w' => r = .returned (.int .i64 ((k0 + n : Nat) : Int)) ∧ w' = w := by
  have HC : Hid (∀ i, i < n → w.cell? ⟨a, i, none⟩ = some (.int .u32 ((k0 + i : Nat) : Int))) := O.cell
  clear O
  go_enter Try.func23, Try.ntmps23
  go_wp2
  go_loopw [1, 5] (fun q i wr => ∃ k : Nat, k ≤ n ∧ i = .int .i64 k ∧ q = .int .i64 ((k0 + k : Nat) : Int) ∧ wr = w) (fun _ i _ => n - (intOf i).toNat)
  case atStart => exact ⟨0, by omega, rfl, rfl, rfl⟩
  case round =>
    obtain ⟨k, hk, rfl, rfl, hwr⟩ := hrel
    subst wr
    by_cases hkn : k < n
    · have i1 : (k : Int) < (n : Int) := by omega
      have i0 : (0 : Int) ≤ (k : Int) := by omega
      have g0 := HC.out k hkn
      obtain ⟨s, hs⟩ : ∃ s : Nat, k0 + k = s := ⟨_, rfl⟩
      rw [hs] at g0 ⊢
      have s1 : (s : Int) < 4294967296 := by omega
      have s0 : (0 : Int) ≤ (s : Int) := by omega
      have HS : Hid (k0 + k = s) := hs
      clear hs
      go_wp2
      go_roundw
      case rel => exact ⟨k + 1, by omega, by go_num, by have := HS.out; rw [show k0 + (k + 1) = s + 1 by omega]; go_num, by first | rfl | trivial⟩
      case measure => simp [intOf]; omega
    · have hkk : k = n := by omega
      subst hkk
      go_wp2
      go_ret
      exact ⟨rfl, rfl⟩
theorem held23n (a : Option Addr) (ca : Nat) (k : Int) (w : World) :
    Calls Try.prog 23 #[.slice a 0 ca, .int .i64 k] w fun r w' => r = .returned (.int .i64 k) ∧ w' = w := by
  go_enter Try.func23, Try.ntmps23
  go_wp2
  refine wp_loop_rounds 1 ?_
  rw [rounds_succ]
  go_wp2
  go_ret
  exact ⟨rfl, rfl⟩
/-- Two rows alike, in any world: the comparison says so, and leaves all as it was. -/
theorem sameU {n a b : Nat} {f : Nat → Int} {w : World} (A : Own w a n (fun i => .int .u32 (f i))) (B : Own w b n (fun i => .int .u32 (f i))) (ca cb : Nat) (hn : n ≤ 1048576) :
    Calls Try.prog 19 #[.slice (some ⟨a, 0, none⟩) n ca, .slice (some ⟨b, 0, none⟩) n cb] w fun r w' => r = .returned (.bool true) ∧ Below w.heap.size w w' :=
  (eqU n a b ca cb f w hn A.cell B.cell).mono fun e w' ⟨h1, q, h2⟩ => ⟨h1, by rw [h2]; exact below_drewN (Below.refl _ _) q⟩
theorem sameI {n a b : Nat} {f : Nat → Int} {w : World} (A : Own w a n (fun i => .int .i64 (f i))) (B : Own w b n (fun i => .int .i64 (f i))) (ca cb : Nat) (hn : n ≤ 1048576) :
    Calls Try.prog 20 #[.slice (some ⟨a, 0, none⟩) n ca, .slice (some ⟨b, 0, none⟩) n cb] w fun r w' => r = .returned (.bool true) ∧ Below w.heap.size w w' :=
  (eqI n a b ca cb f w hn A.cell B.cell).mono fun e w' ⟨h1, q, h2⟩ => ⟨h1, by rw [h2]; exact below_drewN (Below.refl _ _) q⟩
end Go.Proofs.Ytlcfpcapefeajaa
