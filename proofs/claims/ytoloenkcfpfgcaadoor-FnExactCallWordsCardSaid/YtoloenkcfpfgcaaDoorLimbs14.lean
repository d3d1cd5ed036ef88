/- Contracts of the model's sums, differences and order of limbs where one row is empty; conditions: the other one stands in memory, at most a million limbs, each below 10^9. -/
import Derived.Test.YtoloenkcfpfgcaaDoorLimbs8
namespace Go.Proofs.YtoloenkcfpfgcaaDoor
open Go.ChangeShapes Go.WideShapes Go.ChangeAt Go.RowKit

set_option maxRecDepth 100000 in
set_option maxHeartbeats 2000000 in
theorem addD_nr (n a ca : Nat) (pb : Option Addr) (cb : Nat) (d : Nat → Nat) (w : World) (n0 : 0 < n) (hn : n ≤ 1000000) (ha : Limbs w a n d) (la : a < w.heap.size) (hd : ∀ i, d i < 1000000000) :
    Calls Tryd.prog 67 #[.slice (some ⟨a, 0, none⟩) n ca, .slice pb 0 cb] w fun r w' => r = .returned (.slice (some ⟨w.heap.size, 0, none⟩) (n + 1) (n + 1)) ∧ Own w' w.heap.size w.heap.size (n + 1) (pad n d) ∧ Below w.heap.size w w' := by
  obtain ⟨i0, hi, hz0, hz1, hz2⟩ := info_parts info23
  have n0' : (0 : Int) < (n : Int) := by omega
  go_enter Tryd.func67, Tryd.ntmps67
  go_wp2_with (at_make; refine wpList_make_full _ rfl _ _ 22 rfl w.heap.size 23 i0 (.int .u32 0) 1 Tryd.underlying22 hi hz0 hz1 _ _ _ _ (n + 1) rfl rfl (by first | rfl | omega) (by first | rfl | omega) (by rw [hz2]; omega) (by unfold maxLen; omega) (Nat.le_refl _) ?_; intro w1 hown hgrow)
  have O1 : Own w1 w.heap.size w.heap.size (n + 1) (fun _ => 0) := own_made hown (Nat.le_refl _) (hown.lt _ rfl).2
  have B1 : Below w.heap.size w w1 := (Below.refl _ _).grown hgrow (Nat.le_refl _) (by simp)
  clear hown hgrow hi hz0 hz1 hz2
  go_loopw [7, 8] (fun c i wr => ∃ k : Nat, k ≤ n + 1 ∧ i = .int .i64 k ∧ c = .int .u64 0 ∧ Own wr w.heap.size w.heap.size (n + 1) (fun j => if j < k then pad n d j else 0) ∧ Below w.heap.size w wr) (fun _ i _ => (n + 1) - (intOf i).toNat)
  case atStart => exact ⟨0, by omega, rfl, rfl, ⟨fun j hj => by simpa using O1.cell j hj, O1.free, O1.lo, O1.hi⟩, B1⟩
  case round =>
    obtain ⟨k, hk, rfl, rfl, OK, BK⟩ := hrel
    by_cases hkN : k ≤ n
    · have f0 := OK.free k
      have g0 : wr.cell? ⟨w.heap.size, k, none⟩ = some (.int .u32 0) := by have := OK.cell k (by omega); simpa using this
      have i0 : (0 : Int) ≤ (k : Int) := by omega
      have i1 : (k : Int) < ((n + 1 : Nat) : Int) := by omega
      have i2 : (k : Int) ≤ (n : Int) := by omega
      by_cases kn : k < n
      · have kn' : (k : Int) < (n : Int) := by omega
        have cd : wr.cell? ⟨a, k, none⟩ = some (.int .u32 (d k : Int)) := (BK.cell (p := ⟨a, k, none⟩) la).trans (ha k kn)
        have dk := hd k
        have hp : pad n d k = d k := by simp [pad, kn]
        have HP : Hid (pad n d k = d k) := hp
        clear hp
        go_wp2
        go_roundw
        case rel => exact ⟨k + 1, by omega, by go_num, by first | rfl | go_num | (congr 1; omega), OK.set' k (pad n d k) _ (by have h1 := HP.out; rw [h1]; omega) (by omega) (fun j hj => by by_cases e1 : j = k; subst e1; simp; rw [if_neg e1]; by_cases e2 : j < k; rw [if_pos e2, if_pos (by omega)]; rw [if_neg e2, if_neg (by omega)]), BK.setCell (Nat.le_refl _) _⟩
        case measure => simp [intOf]; omega
      · have kn' : ¬ (k : Int) < (n : Int) := by omega
        have hp : pad n d k = 0 := by simp [pad, kn]
        have HP : Hid (pad n d k = 0) := hp
        clear hp
        go_wp2
        go_roundw
        case rel => exact ⟨k + 1, by omega, by go_num, by first | rfl | go_num | (congr 1; omega), OK.set' k (pad n d k) _ (by have h1 := HP.out; rw [h1]; first | rfl | omega) (by omega) (fun j hj => by by_cases e1 : j = k; subst e1; simp; rw [if_neg e1]; by_cases e2 : j < k; rw [if_pos e2, if_pos (by omega)]; rw [if_neg e2, if_neg (by omega)]), BK.setCell (Nat.le_refl _) _⟩
        case measure => simp [intOf]; omega
    · have hkk : k = n + 1 := by omega
      subst hkk
      go_wp2
      go_ret
      exact ⟨rfl, ⟨fun j hj => by have := OK.cell j hj; simpa [hj] using this, OK.free, OK.lo, OK.hi⟩, BK⟩

set_option maxRecDepth 100000 in
set_option maxHeartbeats 2000000 in
theorem addD_nl (n a ca : Nat) (pb : Option Addr) (cb : Nat) (d : Nat → Nat) (w : World) (n0 : 0 < n) (hn : n ≤ 1000000) (ha : Limbs w a n d) (la : a < w.heap.size) (hd : ∀ i, d i < 1000000000) :
    Calls Tryd.prog 67 #[.slice pb 0 cb, .slice (some ⟨a, 0, none⟩) n ca] w fun r w' => r = .returned (.slice (some ⟨w.heap.size, 0, none⟩) (n + 1) (n + 1)) ∧ Own w' w.heap.size w.heap.size (n + 1) (pad n d) ∧ Below w.heap.size w w' := by
  obtain ⟨i0, hi, hz0, hz1, hz2⟩ := info_parts info23
  have n0' : (0 : Int) < (n : Int) := by omega
  go_enter Tryd.func67, Tryd.ntmps67
  go_wp2_with (at_make; refine wpList_make_full _ rfl _ _ 22 rfl w.heap.size 23 i0 (.int .u32 0) 1 Tryd.underlying22 hi hz0 hz1 _ _ _ _ (n + 1) rfl rfl (by first | rfl | omega) (by first | rfl | omega) (by rw [hz2]; omega) (by unfold maxLen; omega) (Nat.le_refl _) ?_; intro w1 hown hgrow)
  have O1 : Own w1 w.heap.size w.heap.size (n + 1) (fun _ => 0) := own_made hown (Nat.le_refl _) (hown.lt _ rfl).2
  have B1 : Below w.heap.size w w1 := (Below.refl _ _).grown hgrow (Nat.le_refl _) (by simp)
  clear hown hgrow hi hz0 hz1 hz2
  go_loopw [7, 8] (fun c i wr => ∃ k : Nat, k ≤ n + 1 ∧ i = .int .i64 k ∧ c = .int .u64 0 ∧ Own wr w.heap.size w.heap.size (n + 1) (fun j => if j < k then pad n d j else 0) ∧ Below w.heap.size w wr) (fun _ i _ => (n + 1) - (intOf i).toNat)
  case atStart => exact ⟨0, by omega, rfl, rfl, ⟨fun j hj => by simpa using O1.cell j hj, O1.free, O1.lo, O1.hi⟩, B1⟩
  case round =>
    obtain ⟨k, hk, rfl, rfl, OK, BK⟩ := hrel
    by_cases hkN : k ≤ n
    · have f0 := OK.free k
      have g0 : wr.cell? ⟨w.heap.size, k, none⟩ = some (.int .u32 0) := by have := OK.cell k (by omega); simpa using this
      have i0 : (0 : Int) ≤ (k : Int) := by omega
      have i1 : (k : Int) < ((n + 1 : Nat) : Int) := by omega
      have i2 : (k : Int) ≤ (n : Int) := by omega
      by_cases kn : k < n
      · have kn' : (k : Int) < (n : Int) := by omega
        have cd : wr.cell? ⟨a, k, none⟩ = some (.int .u32 (d k : Int)) := (BK.cell (p := ⟨a, k, none⟩) la).trans (ha k kn)
        have dk := hd k
        have hp : pad n d k = d k := by simp [pad, kn]
        have HP : Hid (pad n d k = d k) := hp
        clear hp
        go_wp2
        go_roundw
        case rel => exact ⟨k + 1, by omega, by go_num, by first | rfl | go_num | (congr 1; omega), OK.set' k (pad n d k) _ (by have h1 := HP.out; rw [h1]; omega) (by omega) (fun j hj => by by_cases e1 : j = k; subst e1; simp; rw [if_neg e1]; by_cases e2 : j < k; rw [if_pos e2, if_pos (by omega)]; rw [if_neg e2, if_neg (by omega)]), BK.setCell (Nat.le_refl _) _⟩
        case measure => simp [intOf]; omega
      · have kn' : ¬ (k : Int) < (n : Int) := by omega
        have hp : pad n d k = 0 := by simp [pad, kn]
        have HP : Hid (pad n d k = 0) := hp
        clear hp
        go_wp2
        go_roundw
        case rel => exact ⟨k + 1, by omega, by go_num, by first | rfl | go_num | (congr 1; omega), OK.set' k (pad n d k) _ (by have h1 := HP.out; rw [h1]; first | rfl | omega) (by omega) (fun j hj => by by_cases e1 : j = k; subst e1; simp; rw [if_neg e1]; by_cases e2 : j < k; rw [if_pos e2, if_pos (by omega)]; rw [if_neg e2, if_neg (by omega)]), BK.setCell (Nat.le_refl _) _⟩
        case measure => simp [intOf]; omega
    · have hkk : k = n + 1 := by omega
      subst hkk
      go_wp2
      go_ret
      exact ⟨rfl, ⟨fun j hj => by have := OK.cell j hj; simpa [hj] using this, OK.free, OK.lo, OK.hi⟩, BK⟩

set_option maxRecDepth 100000 in
set_option maxHeartbeats 2000000 in
theorem subD_nr (n a ca : Nat) (pb : Option Addr) (cb : Nat) (d : Nat → Nat) (w : World) (hn : n ≤ 1000000) (ha : Limbs w a n d) (la : a < w.heap.size) (hd : ∀ i, d i < 1000000000) :
    Calls Tryd.prog 69 #[.slice (some ⟨a, 0, none⟩) n ca, .slice pb 0 cb] w fun r w' => r = .returned (.slice (some ⟨w.heap.size, 0, none⟩) n n) ∧ Own w' w.heap.size w.heap.size n d ∧ Below w.heap.size w w' := by
  obtain ⟨i0, hi, hz0, hz1, hz2⟩ := info_parts info23
  go_enter Tryd.func69, Tryd.ntmps69
  go_wp2_with (at_make; refine wpList_make_full _ rfl _ _ 22 rfl w.heap.size 23 i0 (.int .u32 0) 1 Tryd.underlying22 hi hz0 hz1 _ _ _ _ n rfl rfl (by first | rfl | omega) (by first | rfl | omega) (by rw [hz2]; omega) (by unfold maxLen; omega) (Nat.le_refl _) ?_; intro w1 hown hgrow)
  have O1 : Own w1 w.heap.size w.heap.size n (fun _ => 0) := own_made hown (Nat.le_refl _) (hown.lt _ rfl).2
  have B1 : Below w.heap.size w w1 := (Below.refl _ _).grown hgrow (Nat.le_refl _) (by simp)
  clear hown hgrow hi hz0 hz1 hz2
  go_loopw [6, 14] (fun c i wr => ∃ k : Nat, k ≤ n ∧ i = .int .i64 k ∧ c = .int .i64 0 ∧ Own wr w.heap.size w.heap.size n (fun j => if j < k then d j else 0) ∧ Below w.heap.size w wr) (fun _ i _ => n - (intOf i).toNat)
  case atStart => exact ⟨0, by omega, rfl, rfl, ⟨fun j hj => by simpa using O1.cell j hj, O1.free, O1.lo, O1.hi⟩, B1⟩
  case round =>
    obtain ⟨k, hk, rfl, rfl, OK, BK⟩ := hrel
    by_cases kn : k < n
    · have f0 := OK.free k
      have g0 : wr.cell? ⟨w.heap.size, k, none⟩ = some (.int .u32 0) := by have := OK.cell k kn; simpa using this
      have i0 : (0 : Int) ≤ (k : Int) := by omega
      have kn' : (k : Int) < (n : Int) := by omega
      have cd : wr.cell? ⟨a, k, none⟩ = some (.int .u32 (d k : Int)) := (BK.cell (p := ⟨a, k, none⟩) la).trans (ha k kn)
      have dk := hd k
      have dk' : (0 : Int) ≤ (d k : Int) := by omega
      go_wp2
      go_roundw
      case rel => exact ⟨k + 1, by omega, by go_num, by first | rfl | go_num | (congr 1; omega), OK.set' k (d k) _ (by omega) (by omega) (fun j hj => by by_cases e1 : j = k; subst e1; simp; rw [if_neg e1]; by_cases e2 : j < k; rw [if_pos e2, if_pos (by omega)]; rw [if_neg e2, if_neg (by omega)]), BK.setCell (Nat.le_refl _) _⟩
      case measure => simp [intOf]; omega
    · have hkk : k = n := by omega
      subst hkk
      go_wp2
      go_ret
      exact ⟨rfl, ⟨fun j hj => by have := OK.cell j hj; simpa [hj] using this, OK.free, OK.lo, OK.hi⟩, BK⟩
theorem cmpD_ne (n m : Nat) (pa pb : Option Addr) (ca cb : Nat) (w : World) (h : n ≠ m) :
    Calls Tryd.prog 68 #[.slice pa n ca, .slice pb m cb] w fun r w' => r = .returned (.int .i64 (if n < m then -1 else 1)) ∧ w' = w := by
  have h' : ¬ (n : Int) = (m : Int) := by omega
  by_cases hl : n < m
  · have hl' : (n : Int) < (m : Int) := by omega
    rw [if_pos hl]
    go_enter Tryd.func68, Tryd.ntmps68
    go_wp2
    go_ret
    exact ⟨rfl, rfl⟩
  · have hl' : ¬ (n : Int) < (m : Int) := by omega
    rw [if_neg hl]
    go_enter Tryd.func68, Tryd.ntmps68
    go_wp2
    go_ret
    exact ⟨rfl, rfl⟩
end Go.Proofs.YtoloenkcfpfgcaaDoor
