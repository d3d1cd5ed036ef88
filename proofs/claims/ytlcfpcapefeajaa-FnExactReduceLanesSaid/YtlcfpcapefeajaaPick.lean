/- Contracts of l2Picked of the model and wordsOn of the program: the words of the lanes that are on; conditions: at most 16 words, which stand in memory. -/
import Derived.Test.YtlcfpcapefeajaaLanes
namespace Go.Proofs.Ytlcfpcapefeajaa
open Go.ChangeShapes Go.WideShapes Go.ChangeAt Go.RowKit
/-- The words of the lanes below k that are on. -/
def pk (d : Nat → Int) (m : Int) : Nat → List Int
  | 0 => []
  | k + 1 => if onM m k then pk d m k ++ [d k] else pk d m k
theorem pk_on (d : Nat → Int) (m : Int) (k : Nat) (h : onM m k = true) : pk d m (k + 1) = pk d m k ++ [d k] := by simp [pk, h]
theorem pk_off (d : Nat → Int) (m : Int) (k : Nat) (h : onM m k = false) : pk d m (k + 1) = pk d m k := by simp [pk, h]
theorem pk_le (d : Nat → Int) (m : Int) : ∀ k, (pk d m k).length ≤ k
  | 0 => by simp [pk]
  | k + 1 => by
    have := pk_le d m k
    cases h : onM m k
    · rw [pk_off d m k h]; omega
    · rw [pk_on d m k h]; simp; omega
theorem ownsRow_lower {w : World} {b e size n : Nat} {v : Value} {xs : List Value} (h : w.ownsRow (b + 1) e size v n xs) : w.ownsRow b e size v n xs := by
  obtain ⟨h1, h2 | ⟨g, cap, cur, hv, hg, r⟩⟩ := h
  · exact ⟨h1, Or.inl h2⟩
  · exact ⟨h1, Or.inr ⟨g, cap, cur, hv, by omega, r⟩⟩
set_option maxRecDepth 100000 in
set_option maxHeartbeats 2000000 in
theorem pick32 (n a ca : Nat) (d : Nat → Int) (m : Int) (w : World) (hn : n ≤ 16) (la : a < w.heap.size) (hc : ∀ i, i < n → w.cell? ⟨a, i, none⟩ = some (.int .u32 (d i))) :
    Calls Try.prog 32 #[.slice (some ⟨a, 0, none⟩) n ca, .int .i64 m] w fun r w' => ∃ v, r = .returned v ∧ w'.ownsRow w.heap.size 39 1 v (pk d m n).length ((pk d m n).map (Value.int .u32)) ∧ Below w.heap.size w w' := by
  have HC : Hid (∀ i, i < n → w.cell? ⟨a, i, none⟩ = some (.int .u32 (d i))) := hc
  clear hc
  obtain ⟨i0, hi, hz0, hz1, hz2⟩ := info_parts info39
  go_enter Try.func32, Try.ntmps32
  go_wp2

  go_loopw [5, 10] (fun v i wr => ∃ k : Nat, k ≤ n ∧ i = .int .i64 k ∧ wr.ownsRow w.heap.size 39 1 v (pk d m k).length ((pk d m k).map (Value.int .u32)) ∧ Below w.heap.size w wr) (fun _ i _ => n - (intOf i).toNat)
  case atStart => exact ⟨0, Nat.zero_le _, rfl, World.ownsRow_nil _ _ _ _, Below.refl _ _⟩
  case round =>
    obtain ⟨k, hk, rfl, hown, hB⟩ := hrel
    by_cases hkn : k < n
    · have i0' : (0 : Int) ≤ (k : Int) := by omega
      have i1 : (k : Int) < (n : Int) := by omega
      have i2 : (k : Int) < 16 := by omega
      have cx : wr.cell? ⟨a, k, none⟩ = some (.int .u32 (d k)) := (hB.cell (p := ⟨a, k, none⟩) (la)).trans (HC.out k hkn)
      have pl := pk_le d m k
      cases ho : onM m k
      · have HO : Hid (onM m k = false) := ho
        clear ho
        go_wp2_with (go_at_call 30; refine (on30 _ _ _ (by omega)).mono ?_; rintro e w' ⟨rfl, hw'⟩; subst w'; rw [HO.out])
        go_roundw
        case rel => exact ⟨k + 1, by omega, by go_num, by rw [pk_off d m k HO.out]; exact hown, hB⟩
        case measure => simp [intOf]; omega
      · have HO : Hid (onM m k = true) := ho
        clear ho
        go_wp2_with (first | (go_at_call 30; refine (on30 _ _ _ (by omega)).mono ?_; rintro e w' ⟨rfl, hw'⟩; subst w'; rw [HO.out]) | (at_builtin; refine wpList_append_own _ rfl _ _ 28 rfl (w.heap.size) 39 i0 (.int .u32 0) 1 4 Try.underlying28 hi hz0 hz1 hz2 rfl (by decide) _ _ _ rfl (hown.alloc _) ⟨wr.heap.size, 0, none⟩ 1 1 [.int .u32 (d k)] rfl rfl ?c1 ?c2 ?c3 ?c4 ?c5 ?_))
        case c1 =>
          intro j u hj
          match j, hj with
          | 0, hj => simp at hj; subst hj; simp [Addr.add]
        case c2 => intro u hu; simp at hu; subst hu; rfl
        case c3 => unfold maxLen; omega
        case c4 => omega
        case c5 => have := hB.size; simp at this ⊢; omega
        · intro v' w1 hown' hgrow _
          have R1 : w1.ownsRow w.heap.size 39 1 v' (pk d m (k + 1)).length ((pk d m (k + 1)).map (Value.int .u32)) := by rw [pk_on d m k HO.out]; simpa using hown'
          have R2 : Below w.heap.size w w1 := (hB.alloc (by have := hB.size; simp at this ⊢; omega) _).grown hgrow (by have := hB.size; simp at this ⊢; omega) (fun q hq => by have := (hown.lt q hq).1; omega)
          clear hown' hgrow hown hB cx
          go_wp2
          go_roundw
          case rel => exact ⟨k + 1, by omega, by go_num, R1, R2⟩
          case measure => simp [intOf]; omega
    · have hkk : k = n := by omega
      subst hkk
      go_wp2
      go_ret
      exact ⟨_, rfl, hown, hB⟩

set_option maxRecDepth 100000 in
set_option maxHeartbeats 2000000 in
theorem pick33 (n a ca : Nat) (d : Nat → Int) (m : Int) (w : World) (hn : n ≤ 16) (la : a < w.heap.size) (hc : ∀ i, i < n → w.cell? ⟨a, i, none⟩ = some (.int .u32 (d i))) :
    Calls Try.prog 33 #[.slice (some ⟨a, 0, none⟩) n ca, .agg #[.bool (onM m 0), .bool (onM m 1), .bool (onM m 2), .bool (onM m 3), .bool (onM m 4), .bool (onM m 5), .bool (onM m 6), .bool (onM m 7), .bool (onM m 8), .bool (onM m 9), .bool (onM m 10), .bool (onM m 11), .bool (onM m 12), .bool (onM m 13), .bool (onM m 14), .bool (onM m 15)]] w fun r w' => ∃ v, r = .returned v ∧ w'.ownsRow w.heap.size 39 1 v (pk d m n).length ((pk d m n).map (Value.int .u32)) ∧ Below w.heap.size w w' := by
  have HC : Hid (∀ i, i < n → w.cell? ⟨a, i, none⟩ = some (.int .u32 (d i))) := hc
  clear hc
  obtain ⟨i0, hi, hz0, hz1, hz2⟩ := info_parts info39
  have OB := own_alloc w (lanesV m) 48 16 (fun j => .bool (onM m j)) (lanesV_get m)
  go_enter Try.func33, Try.ntmps33
  go_wp2

  go_loopw [5, 10] (fun v i wr => ∃ k : Nat, k ≤ n ∧ i = .int .i64 k ∧ wr.ownsRow (w.heap.size + 1) 39 1 v (pk d m k).length ((pk d m k).map (Value.int .u32)) ∧ Below (w.heap.size + 1) (w.alloc (.cells (lanesV m) 48)) wr) (fun _ i _ => n - (intOf i).toNat)
  case atStart => exact ⟨0, Nat.zero_le _, rfl, World.ownsRow_nil _ _ _ _, Below.refl _ _⟩
  case round =>
    obtain ⟨k, hk, rfl, hown, hB⟩ := hrel
    by_cases hkn : k < n
    · have i0' : (0 : Int) ≤ (k : Int) := by omega
      have i1 : (k : Int) < (n : Int) := by omega
      have i2 : (k : Int) < 16 := by omega
      have cx : wr.cell? ⟨a, k, none⟩ = some (.int .u32 (d k)) := (hB.cell (p := ⟨a, k, none⟩) (show a < w.heap.size + 1 by omega)).trans ((World.cell?_alloc_past _ _ _ la).trans (HC.out k hkn))
      have cy : wr.cell? ⟨w.heap.size, k, none⟩ = some (.bool (onM m k)) := (hB.cell (p := ⟨w.heap.size, k, none⟩) (by simp)).trans (OB.cell k (by omega))
      have pl := pk_le d m k
      cases ho : onM m k
      · have HO : Hid (onM m k = false) := ho
        rw [ho] at cy
        clear ho
        go_wp2
        go_roundw
        case rel => exact ⟨k + 1, by omega, by go_num, by rw [pk_off d m k HO.out]; exact hown, hB⟩
        case measure => simp [intOf]; omega
      · have HO : Hid (onM m k = true) := ho
        rw [ho] at cy
        clear ho
        go_wp2_with (at_builtin; refine wpList_append_own _ rfl _ _ 28 rfl (w.heap.size + 1) 39 i0 (.int .u32 0) 1 4 Try.underlying28 hi hz0 hz1 hz2 rfl (by decide) _ _ _ rfl (hown.alloc _) ⟨wr.heap.size, 0, none⟩ 1 1 [.int .u32 (d k)] rfl rfl ?c1 ?c2 ?c3 ?c4 ?c5 ?_)
        case c1 =>
          intro j u hj
          match j, hj with
          | 0, hj => simp at hj; subst hj; simp [Addr.add]
        case c2 => intro u hu; simp at hu; subst hu; rfl
        case c3 => unfold maxLen; omega
        case c4 => omega
        case c5 => have := hB.size; simp at this ⊢; omega
        · intro v' w1 hown' hgrow _
          have R1 : w1.ownsRow (w.heap.size + 1) 39 1 v' (pk d m (k + 1)).length ((pk d m (k + 1)).map (Value.int .u32)) := by rw [pk_on d m k HO.out]; simpa using hown'
          have R2 : Below (w.heap.size + 1) (w.alloc (.cells (lanesV m) 48)) w1 := (hB.alloc (by have := hB.size; simp at this ⊢; omega) _).grown hgrow (by have := hB.size; simp at this ⊢; omega) (fun q hq => by have := (hown.lt q hq).1; omega)
          clear hown' hgrow hown hB cx
          go_wp2
          go_roundw
          case rel => exact ⟨k + 1, by omega, by go_num, R1, R2⟩
          case measure => simp [intOf]; omega
    · have hkk : k = n := by omega
      subst hkk
      go_wp2
      go_ret
      exact ⟨_, rfl, ownsRow_lower hown, ((Below.refl _ _).alloc (Nat.le_refl _) _).trans (hB.mono (by omega))⟩

end Go.Proofs.Ytlcfpcapefeajaa
