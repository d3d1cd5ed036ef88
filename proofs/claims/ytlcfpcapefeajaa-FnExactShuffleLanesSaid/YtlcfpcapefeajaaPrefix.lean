/- Contracts of PrefixLanes, of the program and of its model; conditions: the words stand in memory. -/
import Derived.Test.YtlcfpcapefeajaaPick
import Derived.Test.YtlcfpcapefeajaaMask
namespace Go.Proofs.Ytlcfpcapefeajaa
open Go.ChangeShapes Go.WideShapes Go.ChangeAt Go.RowKit
/-- The sum, as words wrap, of the lanes ahead of k that are on. -/
def ah (d : Nat → Int) (m : Int) : Nat → Int
  | 0 => 0
  | k + 1 => if onM m k then (ah d m k + d k) % 4294967296 else ah d m k
theorem ah_on (d : Nat → Int) (m : Int) (k : Nat) (h : onM m k = true) : ah d m (k + 1) = (ah d m k + d k) % 4294967296 := by simp [ah, h]
theorem ah_off (d : Nat → Int) (m : Int) (k : Nat) (h : onM m k = false) : ah d m (k + 1) = ah d m k := by simp [ah, h]
def pf (d : Nat → Int) (m : Int) (k : Nat) : Int := if onM m k then ah d m k else 0
theorem good16 {n : Nat} {m : Int} (h : goodM n m = true) : n ≤ 16 := by
  unfold goodM at h; simp only [decide_eq_true_eq] at h; omega

set_option maxRecDepth 100000 in
set_option maxHeartbeats 2000000 in
theorem pre26 {n a : Nat} {d : Nat → Int} {w : World} (O : Own w a n (fun i => .int .u32 (d i))) (ca : Nat) (m : Int) (hg : goodM n m = true) :
    Calls Try.prog 26 #[.slice (some ⟨a, 0, none⟩) n ca, .int .i64 m] w fun r w' => ∃ g, r = .returned (.tuple #[.slice (some ⟨g, 0, none⟩) n n, .bool true]) ∧ w.heap.size ≤ g ∧ Own w' g n (fun i => .int .u32 (pf d m i)) ∧ Below w.heap.size w w' := by
  have hn := good16 hg
  have la := O.hi
  have HC : Hid (∀ i, i < n → w.cell? ⟨a, i, none⟩ = some (.int .u32 (d i))) := O.cell
  clear O
  obtain ⟨i0, hi, hz0, hz1, hz2⟩ := info_parts info39
  go_enter Try.func26, Try.ntmps26
  go_wp2_with (first | (go_at_call 9; refine (gm9 _ _ _).mono ?_; rintro e w1 ⟨rfl, hw1⟩; subst w1; rw [hg]) | (at_make; refine wpList_make_full w rfl _ _ 28 rfl (w.heap.size) 39 i0 (.int .u32 0) 1 Try.underlying28 hi hz0 hz1 _ _ _ _ n rfl rfl (by first | rfl | omega) (by first | rfl | omega) (by rw [hz2]; omega) (by unfold maxLen; omega) (Nat.le_refl _) ?_; intro w2 hown hgrow))
  have O1 : Own w2 w.heap.size n (fun _ => .int .u32 0) := own_made hown
  have B1 : Below w.heap.size w w2 := (Below.refl _ _).grown hgrow (Nat.le_refl _) (by simp)
  clear hown hgrow hi hz0 hz1 hz2 hg

  go_loopw [7, 20] (fun s i wr => ∃ k : Nat, k ≤ n ∧ i = .int .i64 k ∧ s = .int .u32 (ah d m k) ∧ Own wr w.heap.size n (fun j => if j < k then .int .u32 (pf d m j) else .int .u32 0) ∧ Below w.heap.size w wr) (fun _ i _ => n - (intOf i).toNat)
  case atStart => exact ⟨0, Nat.zero_le _, rfl, rfl, O1.mono (Nat.le_refl _) (fun j _ => by simp), B1⟩
  case round =>
    obtain ⟨k, hk, rfl, rfl, OK, hB⟩ := hrel
    by_cases hkn : k < n
    · have i0' : (0 : Int) ≤ (k : Int) := by omega
      have i1 : (k : Int) < (n : Int) := by omega
      have i2 : (k : Int) < 16 := by omega
      have cx : wr.cell? ⟨a, k, none⟩ = some (.int .u32 (d k)) := (hB.cell (p := ⟨a, k, none⟩) la).trans (HC.out k hkn)
      have f0 := OK.free k
      have g0 : wr.cell? ⟨w.heap.size, k, none⟩ = some (.int .u32 0) := by have := OK.cell k hkn; simpa using this
      obtain ⟨s, hs⟩ : ∃ s, ah d m k = s := ⟨_, rfl⟩
      rw [hs]
      have HS : Hid (ah d m k = s) := hs
      clear hs
      cases ho : onM m k
      · have HO : Hid (onM m k = false) := ho
        clear ho
        go_wp2_with (go_at_call 30; refine (on30 _ _ _ (by omega)).mono ?_; rintro e w' ⟨rfl, hw'⟩; subst w'; rw [HO.out])
        go_roundw
        case rel => exact ⟨k + 1, by omega, by go_num, by rw [ah_off d m k HO.out, HS.out], OK.mono (Nat.le_refl _) (fun j hj => by by_cases e1 : j = k; (subst e1; simp [pf, HO.out]); by_cases e2 : j < k; rw [if_pos e2, if_pos (by omega)]; rw [if_neg e2, if_neg (by omega)]), hB⟩
        case measure => simp [intOf]; omega
      · have HO : Hid (onM m k = true) := ho
        clear ho
        go_wp2_with (go_at_call 30; refine (on30 _ _ _ (by omega)).mono ?_; rintro e w' ⟨rfl, hw'⟩; subst w'; rw [HO.out])
        go_roundw
        case rel => exact ⟨k + 1, by omega, by go_num, by rw [ah_on d m k HO.out, HS.out], OK.set k _ hkn (fun j hj => by by_cases e1 : j = k; (subst e1; have := HS.out; simp [pf, HO.out, this]); rw [if_neg e1]; by_cases e2 : j < k; rw [if_pos e2, if_pos (by omega)]; rw [if_neg e2, if_neg (by omega)]), hB.setCell (Nat.le_refl _) _⟩
        case measure => simp [intOf]; omega
    · have hkk : k = n := by omega
      subst hkk
      go_wp2
      go_ret2
      exact ⟨_, rfl, Nat.le_refl _, OK.mono (Nat.le_refl _) (fun j hj => by simp [hj]), hB⟩

set_option maxRecDepth 100000 in
set_option maxHeartbeats 2000000 in
theorem pre27 {n a : Nat} {d : Nat → Int} {w : World} (O : Own w a n (fun i => .int .u32 (d i))) (ca : Nat) (m : Int) (hg : goodM n m = true) :
    Calls Try.prog 27 #[.slice (some ⟨a, 0, none⟩) n ca, .int .i64 m] w fun r w' => ∃ g, r = .returned (.tuple #[.slice (some ⟨g, 0, none⟩) n n, .bool true]) ∧ w.heap.size ≤ g ∧ Own w' g n (fun i => .int .u32 (pf d m i)) ∧ Below w.heap.size w w' := by
  have hn := good16 hg
  obtain ⟨i0, hi, hz0, hz1, hz2⟩ := info_parts info39
  go_enter Try.func27, Try.ntmps27
  go_wp2_with (first | (go_at_call 10; refine (gm10 _ _ _).mono ?_; rintro e w1 ⟨rfl, hw1⟩; subst w1; rw [hg]) | (go_at_call 31; refine (lanes31 m w).mono ?_; rintro e w1 ⟨rfl, Bw⟩) | (at_make; refine wpList_make_full (w1.alloc (.cells (lanesV m) 48)) rfl _ _ 28 rfl ((w1.alloc (.cells (lanesV m) 48)).heap.size) 39 i0 (.int .u32 0) 1 Try.underlying28 hi hz0 hz1 _ _ _ _ n rfl rfl (by first | rfl | omega) (by first | rfl | omega) (by rw [hz2]; omega) (by unfold maxLen; omega) (Nat.le_refl _) ?_; intro w2 hown hgrow))
  have OB := own_alloc w1 (lanesV m) 48 16 (fun j => .bool (onM m j)) (lanesV_get m)
  have BB : Below w1.heap.size w1 (w1.alloc (.cells (lanesV m) 48)) := (Below.refl _ _).alloc (Nat.le_refl _) _
  have BB2 := BB.size
  have BB3 := OB.hi
  have hown' := hown
  have hgrow' := hgrow
  have hs : (w1.alloc (.cells (lanesV m) 48)).heap.size = w1.heap.size + 1 := World.size_alloc _ _
  generalize w1.alloc (.cells (lanesV m) 48) = W at OB BB BB2 BB3 hown' hgrow' hs
  have O1 : Own w2 (w1.heap.size + 1) n (fun _ => .int .u32 0) := by rw [← hs]; exact own_made hown'
  have B1 : Below (w1.heap.size + 1) W w2 := by rw [← hs]; exact (Below.refl _ _).grown hgrow' (Nat.le_refl _) (by simp)
  have BW : Below w.heap.size w W := Bw.trans (BB.mono Bw.size)
  have la := O.hi
  have HC : Hid (∀ i, i < n → W.cell? ⟨a, i, none⟩ = some (.int .u32 (d i))) := fun i hi => (BW.cell (p := ⟨a, i, none⟩) O.hi).trans (O.cell i hi)
  have HB : Hid (∀ i, i < 16 → W.cell? ⟨w1.heap.size, i, none⟩ = some (.bool (onM m i))) := OB.cell
  clear hown hgrow hown' hgrow' hi hz0 hz1 hz2 hg O OB BB hs BB2 BB3
  have sz := Bw.size

  go_loopw [8, 23] (fun s i wr => ∃ k : Nat, k ≤ n ∧ i = .int .i64 k ∧ s = .int .u32 (ah d m k) ∧ Own wr (w1.heap.size + 1) n (fun j => if j < k then .int .u32 (pf d m j) else .int .u32 0) ∧ Below (w1.heap.size + 1) W wr) (fun _ i _ => n - (intOf i).toNat)
  case atStart => exact ⟨0, Nat.zero_le _, rfl, rfl, O1.mono (Nat.le_refl _) (fun j _ => by simp), B1⟩
  case round =>
    obtain ⟨k, hk, rfl, rfl, OK, hB⟩ := hrel
    by_cases hkn : k < n
    · have i0' : (0 : Int) ≤ (k : Int) := by omega
      have i1 : (k : Int) < (n : Int) := by omega
      have i2 : (k : Int) < 16 := by omega
      have cx : wr.cell? ⟨a, k, none⟩ = some (.int .u32 (d k)) := (hB.cell (p := ⟨a, k, none⟩) (show a < w1.heap.size + 1 by omega)).trans (HC.out k hkn)
      have cy : wr.cell? ⟨w1.heap.size, k, none⟩ = some (.bool (onM m k)) := (hB.cell (p := ⟨w1.heap.size, k, none⟩) (Nat.lt_succ_self _)).trans (HB.out k (by omega))
      have f0 := OK.free k
      have g0 : wr.cell? ⟨(w1.heap.size + 1), k, none⟩ = some (.int .u32 0) := by have := OK.cell k hkn; simpa using this
      obtain ⟨s, hs⟩ : ∃ s, ah d m k = s := ⟨_, rfl⟩
      rw [hs]
      have HS : Hid (ah d m k = s) := hs
      clear hs
      cases ho : onM m k
      · have HO : Hid (onM m k = false) := ho
        rw [ho] at cy
        clear ho
        go_wp2
        go_roundw
        case rel => exact ⟨k + 1, by omega, by go_num, by rw [ah_off d m k HO.out, HS.out], OK.mono (Nat.le_refl _) (fun j hj => by by_cases e1 : j = k; (subst e1; simp [pf, HO.out]); by_cases e2 : j < k; rw [if_pos e2, if_pos (by omega)]; rw [if_neg e2, if_neg (by omega)]), hB⟩
        case measure => simp [intOf]; omega
      · have HO : Hid (onM m k = true) := ho
        rw [ho] at cy
        clear ho
        go_wp2
        go_roundw
        case rel => exact ⟨k + 1, by omega, by go_num, by rw [ah_on d m k HO.out, HS.out], OK.set k _ hkn (fun j hj => by by_cases e1 : j = k; (subst e1; have := HS.out; simp [pf, HO.out, this]); rw [if_neg e1]; by_cases e2 : j < k; rw [if_pos e2, if_pos (by omega)]; rw [if_neg e2, if_neg (by omega)]), hB.setCell (Nat.le_refl _) _⟩
        case measure => simp [intOf]; omega
    · have hkk : k = n := by omega
      subst hkk
      go_wp2
      go_ret2
      exact ⟨_, rfl, by omega, OK.mono (Nat.le_refl _) (fun j hj => by simp [hj]), BW.trans (hB.mono (by omega))⟩

theorem pre26x (n : Nat) (a : Option Addr) (ca : Nat) (m : Int) (w : World) (hg : goodM n m = false) :
    Calls Try.prog 26 #[.slice a n ca, .int .i64 m] w fun r w' => r = .returned (.tuple #[.slice none 0 0, .bool false]) ∧ w' = w := by
  go_enter Try.func26, Try.ntmps26
  go_wp2_with (go_at_call 9; refine (gm9 _ _ _).mono ?_; rintro e w1 ⟨rfl, hw1⟩; subst w1; rw [hg])
  go_ret2
  exact ⟨rfl, rfl⟩
theorem pre27x (n : Nat) (a : Option Addr) (ca : Nat) (m : Int) (w : World) (hg : goodM n m = false) :
    Calls Try.prog 27 #[.slice a n ca, .int .i64 m] w fun r w' => r = .returned (.tuple #[.slice none 0 0, .bool false]) ∧ w' = w := by
  go_enter Try.func27, Try.ntmps27
  go_wp2_with (go_at_call 10; refine (gm10 _ _ _).mono ?_; rintro e w1 ⟨rfl, hw1⟩; subst w1; rw [hg])
  go_ret2
  exact ⟨rfl, rfl⟩
end Go.Proofs.Ytlcfpcapefeajaa
