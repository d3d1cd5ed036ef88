/- Contracts of the laws' comparisons and marks of rows of texts (eqStringS, markText, markStringS, heldStringS): conditions: the rows stand in memory, at most 2^20 long. -/
import Derived.Test.YtojjifppfinkhaaDoorMem
import Derived.Laws.IdiomStrings
import Derived.Deep.RegionHeld3
import Derived.BigQuiet
namespace Go.Proofs.YtojjifppfinkhaaDoor
open Go.ChangeShapes Go.WideShapes Go.ChangeAt Go.RowKit
/-- The decimal digits of a number ahead of a text. -/
def dig : Nat → Nat → ByteArray → ByteArray
  | 0, _, s => s
  | f + 1, k, s => if k = 0 then s else dig f (k / 10) (ByteArray.mk #[48 + UInt8.ofNat (k % 10)] ++ s)
theorem dig_zero (f : Nat) (s : ByteArray) : dig f 0 s = s := by cases f <;> simp [dig]
def mtext (k : Nat) : ByteArray := ByteArray.mk #[109] ++ dig 8 k (ByteArray.mk #[])
theorem one_byte (w : World) (n : Int) (h0 : 0 ≤ n) (h1 : n < 256) (t : TypeId) :
    (convert 33 9 (.slice (some ⟨w.heap.size, 0, none⟩) 1 1)).run Tryd.prog (w.alloc (.cells #[.int .u8 n] t)) = .ok (.string (ByteArray.mk #[UInt8.ofNat n.toNat])) (w.alloc (.cells #[.int .u8 n] t)) :=
  run_convert_bytes_back _ 33 9 5 ⟨w.heap.size, 0, none⟩ 1 [UInt8.ofNat n.toNat] Tryd.underlying33 Tryd.underlying5 Tryd.underlying9 (fun j hj => by
    obtain rfl : j = 0 := by simpa using hj
    show (w.alloc _).cell? ⟨w.heap.size, 0, none⟩ = _
    rw [World.cell?_alloc_mark]
    have : n.toNat % 256 = n.toNat := Nat.mod_eq_of_lt (by omega)
    simp [UInt8.toNat_ofNat', this]
    omega)
set_option maxRecDepth 100000 in
set_option maxHeartbeats 1000000 in
theorem markText15 (k : Nat) (w : World) (h0 : 0 < k) (h1 : k ≤ 10000000) :
    Calls Tryd.prog 12 #[.int .i64 k] w fun r w' => r = .returned (.string (mtext k)) ∧ Below w.heap.size w w' := by
  have k0 : (0 : Int) < (k : Int) := by omega
  go_enter Tryd.func12, Tryd.ntmps12
  go_wp2
  go_loopw [0, 3] (fun v t wr => ∃ (f m : Nat) (s : ByteArray), v = .int .i64 m ∧ t = .string s ∧ dig f m s = dig 8 k (ByteArray.mk #[]) ∧ m < 10 ^ f ∧ m ≤ 10000000 ∧ s.size + f ≤ 8 ∧ Below w.heap.size w wr) (fun v _ _ => (intOf v).toNat)
  case atStart => exact ⟨8, k, _, rfl, rfl, rfl, by omega, h1, by decide, Below.refl _ _⟩
  case round =>
    obtain ⟨f, m, s, rfl, rfl, hd, hf, m7, hs, B⟩ := hrel
    rcases Nat.eq_zero_or_pos m with rfl | hm
    · rw [dig_zero] at hd
      have z : s.size ≤ 8 := by omega
      have HD : Hid (s = dig 8 k (ByteArray.mk #[])) := hd
      clear hd
      rw [show ((0 : Nat) : Int) = 0 from rfl]
      go_wp2
      go_ret
      exact ⟨by rw [mtext, ← HD.out]; rfl, B⟩
    · have m0 : (0 : Int) < (m : Int) := by omega
      obtain ⟨f, rfl⟩ : ∃ g, f = g + 1 := ⟨f - 1, by rcases f with _ | f; (simp at hf; omega); omega⟩
      obtain ⟨d, hd'⟩ : ∃ d : Nat, m % 10 = d := ⟨_, rfl⟩
      have d9 : d < 10 := by omega
      have e1 : (m : Int) % 10 = (d : Int) := by omega
      have e1' : Int.tmod (m : Int) 10 = (d : Int) := by rw [Int.tmod_eq_emod_of_nonneg (by omega)]; omega
      have e2 : Int.tdiv (m : Int) 10 = ((m / 10 : Nat) : Int) := by rw [Int.tdiv_eq_ediv_of_nonneg (by omega)]; omega
      have hb := fun t => one_byte wr (48 + (d : Int)) (by omega) (by omega) t
      have z : s.size ≤ 8 := by omega
      go_wp2
      have q1 : ((m : Int) / 10) = ((m / 10 : Nat) : Int) := by omega
      refine ⟨⟨f, m / 10, _, ?_, rfl, ?_, ?_, by omega, ?_, B.alloc (by have := B.size; omega) _⟩, ?_⟩
      · rw [q1]
      · rw [← hd, dig, if_neg (by omega), hd']
      · rw [Nat.pow_succ] at hf; omega
      · rw [ByteArray.size_append']
        show 1 + s.size + f ≤ 8
        omega
      · rw [q1]
        simp [intOf]
        omega

set_option maxRecDepth 100000 in
set_option maxHeartbeats 1000000 in
theorem eqS (n a b ca cb : Nat) (f : Nat → ByteArray) (w : World) (hn : n ≤ 1048576) (ha : ∀ i, i < n → w.cell? ⟨a, i, none⟩ = some (.string (f i))) (hb : ∀ i, i < n → w.cell? ⟨b, i, none⟩ = some (.string (f i))) :
    Calls Tryd.prog 7 #[.slice (some ⟨a, 0, none⟩) n ca, .slice (some ⟨b, 0, none⟩) n cb] w fun r w' => r = .returned (.bool true) ∧ ∃ k, w' = w.drewN k := by
  go_enter Tryd.func7, Tryd.ntmps7
  go_wp2
  go_loopw [5] (fun i wx => ∃ k q : Nat, k ≤ n ∧ i = .int .i64 k ∧ wx = w.drewN q) (fun i _ => n - (intOf i).toNat)
  case atStart => exact ⟨0, 0, by omega, rfl, rfl⟩
  case round =>
    obtain ⟨k, q, hk, rfl, rfl⟩ := hrel
    by_cases hkn : k < n
    · obtain ⟨t, ht⟩ : ∃ t, f k = t := ⟨_, rfl⟩
      have c1 : w.cell? ⟨a, k, none⟩ = some (.string t) := by rw [← ht]; exact ha k hkn
      have c2 : w.cell? ⟨b, k, none⟩ = some (.string t) := by rw [← ht]; exact hb k hkn
      have i0 : (0 : Int) ≤ (k : Int) := by omega
      have i1 : (k : Int) < (n : Int) := by omega
      clear ht
      go_wp2
      go_quiet (fail)
      go_wp2
      go_roundw
      case rel => exact ⟨k + 1, _, by omega, by go_num, rfl⟩
      case measure => simp [intOf]; omega
    · have hkk : k = n := by omega
      subst hkk
      go_wp2
      go_ret
      exact ⟨rfl, q, rfl⟩
theorem sameS {n a b : Nat} {f : Nat → ByteArray} {w : World} (A : Own w a n (fun i => .string (f i))) (B : Own w b n (fun i => .string (f i))) (ca cb : Nat) (hn : n ≤ 1048576) :
    Calls Tryd.prog 7 #[.slice (some ⟨a, 0, none⟩) n ca, .slice (some ⟨b, 0, none⟩) n cb] w fun r w' => r = .returned (.bool true) ∧ Below w.heap.size w w' :=
  (eqS n a b ca cb f w hn A.cell B.cell).mono fun e w' ⟨h1, q, h2⟩ => ⟨h1, by rw [h2]; exact below_drewN (Below.refl _ _) q⟩

set_option maxRecDepth 100000 in
set_option maxHeartbeats 1000000 in
theorem mark9 {n a : Nat} {f : Nat → Value} {w : World} (O : Own w a n f) (ca k0 : Nat) (hn : n ≤ 1048576) (h0 : 0 < k0) (hk0 : k0 ≤ 1048577) :
    Calls Tryd.prog 8 #[.slice (some ⟨a, 0, none⟩) n ca, .int .i64 k0] w fun r w' => r = .returned (.int .i64 ((k0 + n : Nat) : Int)) ∧ Own w' a n (fun i => .string (mtext (k0 + i))) ∧ Only a w w' := by
  go_enter Tryd.func8, Tryd.ntmps8
  go_wp2
  go_loopw [1, 5] (fun q i wr => ∃ k : Nat, k ≤ n ∧ i = .int .i64 k ∧ q = .int .i64 ((k0 + k : Nat) : Int) ∧ Own wr a n (fun j => if j < k then .string (mtext (k0 + j)) else f j) ∧ Only a w wr) (fun _ i _ => n - (intOf i).toNat)
  case atStart => exact ⟨0, by omega, rfl, rfl, O.mono (Nat.le_refl _) (fun j _ => by simp), Only.refl _ _⟩
  case round =>
    obtain ⟨k, hk, rfl, rfl, OK, BK⟩ := hrel
    by_cases hkn : k < n
    · have i1 : (k : Int) < (n : Int) := by omega
      have i0 : (0 : Int) ≤ (k : Int) := by omega
      obtain ⟨s, hs⟩ : ∃ s : Nat, k0 + k = s := ⟨_, rfl⟩
      rw [hs]
      have s1 : (s : Int) < 4294967296 := by omega
      have s0 : (0 : Int) ≤ (s : Int) := by omega
      have hm := markText15 s wr (by omega) (by omega)
      have HM : Hid (Calls Tryd.prog 12 #[.int .i64 s] wr fun r w' => r = .returned (.string (mtext s)) ∧ Below wr.heap.size wr w') := hm
      have HS : Hid (k0 + k = s) := hs
      clear hs hm
      go_wp2_with (go_at_call 12; refine (Hid.out HM).mono ?_; rintro e w1 ⟨rfl, B1⟩; have O1 := OK.next B1; have f0 := O1.free k; (have g0 : w1.cell? ⟨a, k, none⟩ = some (f k) := by have := O1.cell k hkn; simpa using this))
      go_roundw
      case rel => exact ⟨k + 1, by omega, by go_num, by have := HS.out; rw [show k0 + (k + 1) = s + 1 by omega]; go_num, O1.set k _ hkn (fun j _ => by have hs := HS.out; by_cases e1 : j = k; (subst e1; rw [hs]; simp); rw [if_neg e1]; by_cases e2 : j < k; rw [if_pos e2, if_pos (by omega)]; rw [if_neg e2, if_neg (by omega)]), (BK.trans (Only.ofBelow B1)).setCell _ _⟩
      case measure => simp [intOf]; omega
    · have hkk : k = n := by omega
      subst hkk
      go_wp2
      go_ret
      exact ⟨rfl, OK.mono (Nat.le_refl _) (fun j hj => by simp [hj]), BK⟩

set_option maxRecDepth 100000 in
set_option maxHeartbeats 1000000 in
theorem held10 {n a : Nat} {w : World} (ca k0 : Nat) (O : Own w a n (fun i => .string (mtext (k0 + i)))) (hn : n ≤ 1048576) (h0 : 0 < k0) (hk0 : k0 ≤ 1048577) :
    Calls Tryd.prog 9 #[.slice (some ⟨a, 0, none⟩) n ca, .int .i64 k0] w fun r w' => r = .returned (.int .i64 ((k0 + n : Nat) : Int)) ∧ Below w.heap.size w w' := by
  go_enter Tryd.func9, Tryd.ntmps9
  go_wp2
  go_loopw [1, 5] (fun q i wr => ∃ k : Nat, k ≤ n ∧ i = .int .i64 k ∧ q = .int .i64 ((k0 + k : Nat) : Int) ∧ Below w.heap.size w wr) (fun _ i _ => n - (intOf i).toNat)
  case atStart => exact ⟨0, by omega, rfl, rfl, Below.refl _ _⟩
  case round =>
    obtain ⟨k, hk, rfl, rfl, BK⟩ := hrel
    by_cases hkn : k < n
    · have i1 : (k : Int) < (n : Int) := by omega
      have i0 : (0 : Int) ≤ (k : Int) := by omega
      obtain ⟨s, hs⟩ : ∃ s : Nat, k0 + k = s := ⟨_, rfl⟩
      have g0 := (O.next BK).cell k hkn
      rw [hs] at g0 ⊢
      have s1 : (s : Int) < 4294967296 := by omega
      have s0 : (0 : Int) ≤ (s : Int) := by omega
      obtain ⟨T, hT⟩ : ∃ T, mtext s = T := ⟨_, rfl⟩
      rw [hT] at g0
      have oh := O.hi
      have og := BK.size
      have HM : Hid (∀ wq : World, Calls Tryd.prog 12 #[.int .i64 s] wq fun r w' => r = .returned (.string T) ∧ Below wq.heap.size wq w') := fun wq => by have := markText15 s wq (by omega) (by omega); rw [hT] at this; exact this
      have HS : Hid (k0 + k = s) := hs
      have al : a < wr.heap.size := by omega
      clear hs hT
      go_wp2
      have bd : Below w.heap.size w wr.drew := BK.drew
      go_region_held3 (fun v => v.cell? ⟨a, k, none⟩ = some (.string T) ∧ Below w.heap.size w v) (first | with_reducible exact ⟨g0, bd⟩ | with_reducible exact ⟨g1, B2⟩ | (go_keep; done)) (first | (go_at_call 12; refine ((Hid.out HM) _).mono ?_; rintro e w1 ⟨rfl, B1⟩; (have g1 : w1.cell? ⟨a, k, none⟩ = some (.string T) := (B1.cell (p := ⟨a, k, none⟩) al).trans g0); (have B2 : Below w.heap.size w w1 := BK.trans (Below.mono (w := wr) ⟨B1.os, B1.tape, B1.output, B1.size, B1.block⟩ og))))
      clear g0 g1 B1 bd
      go_wp2
      go_roundw
      case rel => exact ⟨k + 1, by omega, by go_num, by have := HS.out; rw [show k0 + (k + 1) = s + 1 by omega]; go_num, B2⟩
      case measure => simp [intOf]; omega
    · have hkk : k = n := by omega
      subst hkk
      go_wp2
      go_ret
      exact ⟨rfl, BK⟩
end Go.Proofs.YtojjifppfinkhaaDoor
