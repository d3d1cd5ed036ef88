/- Contract of the model's difference of limbs (l1SubD): digit by digit with what is borrowed; conditions: both rows stand in memory, at most a million limbs each, each below 10^9. -/
import Derived.Test.YtamoakodlmjbiaaDoorLimbs2
namespace Go.Proofs.YtamoakodlmjbiaaDoor
open Go.ChangeShapes Go.WideShapes Go.ChangeAt Go.RowKit

/-- What is borrowed from a place. -/
def borrow (x y : Nat → Nat) : Nat → Nat
  | 0 => 0
  | i + 1 => if x i < borrow x y i + y i then 1 else 0
def subDig (x y : Nat → Nat) (i : Nat) : Nat := x i + 1000000000 * borrow x y (i + 1) - borrow x y i - y i
theorem borrow_le (x y : Nat → Nat) : ∀ i, borrow x y i ≤ 1
  | 0 => by simp [borrow]
  | i + 1 => by unfold borrow; split <;> omega

set_option maxRecDepth 100000 in
set_option maxHeartbeats 2000000 in
theorem subD_any (n m a b ca cb : Nat) (d e : Nat → Nat) (w : World) (hmn : m ≤ n) (hn : n ≤ 1000000)
    (ha : Limbs w a n d) (hb : Limbs w b m e) (la : a < w.heap.size) (lb : b < w.heap.size) (hd : ∀ i, d i < 1000000000) (he : ∀ i, e i < 1000000000) (y : Nat → Nat) (hy : y = pad m e) :
    Calls Tryd.prog 106 #[.slice (some ⟨a, 0, none⟩) n ca, .slice (some ⟨b, 0, none⟩) m cb] w fun r w' => r = .returned (.slice (some ⟨w.heap.size, 0, none⟩) n n) ∧ Own w' w.heap.size w.heap.size n (subDig d y) ∧ Below w.heap.size w w' := by
  obtain ⟨i0, hi, hz0, hz1, hz2⟩ := info_parts info23
  have HY : Hid (y = pad m e) := hy
  clear hy
  go_enter Tryd.func106, Tryd.ntmps106
  go_wp2_with (at_make; refine wpList_make_full _ rfl _ _ 55 rfl w.heap.size 23 i0 (.int .u32 0) 1 Tryd.underlying55 hi hz0 hz1 _ _ _ _ n rfl rfl (by first | rfl | omega) (by first | rfl | omega) (by rw [hz2]; omega) (by unfold maxLen; omega) (Nat.le_refl _) ?_; intro w1 hown hgrow)
  have O1 : Own w1 w.heap.size w.heap.size n (fun _ => 0) := own_made hown (Nat.le_refl _) (hown.lt _ rfl).2
  have B1 : Below w.heap.size w w1 := (Below.refl _ _).grown hgrow (Nat.le_refl _) (by simp)
  clear hown hgrow
  go_loopw [6, 14] (fun c i wr => ∃ k : Nat, k ≤ n ∧ i = .int .i64 k ∧ c = .int .i64 (borrow d y k : Nat) ∧ Own wr w.heap.size w.heap.size n (fun j => if j < k then subDig d y j else 0) ∧ Below w.heap.size w wr) (fun _ i _ => n - (intOf i).toNat)
  case atStart => exact ⟨0, by omega, rfl, rfl, ⟨fun j hj => by simpa using O1.cell j hj, O1.free, O1.lo, O1.hi⟩, B1⟩
  case round =>
    obtain ⟨k, hk, rfl, rfl, OK, BK⟩ := hrel
    by_cases hkN : k < n
    · have cl := borrow_le d y k
      have f0 := OK.free k
      have g0 : wr.cell? ⟨w.heap.size, k, none⟩ = some (.int .u32 0) := by have := OK.cell k (by omega); simpa using this
      have ca := BK.cell (p := ⟨a, k, none⟩) la
      have cb' := BK.cell (p := ⟨b, k, none⟩) lb
      have i0 : (0 : Int) ≤ (k : Int) := by omega
      have i1 : (k : Int) < (n : Int) := by omega
      have cd : wr.cell? ⟨a, k, none⟩ = some (.int .u32 (d k : Int)) := ca.trans (ha k hkN)
      have dk := hd k
      obtain ⟨C, hC⟩ : ∃ C, borrow d y k = C := ⟨_, rfl⟩
      rw [hC] at cl ⊢
      have HC : Hid (borrow d y k = C) := hC
      clear hC
      by_cases km : k < m
      · have ce : wr.cell? ⟨b, k, none⟩ = some (.int .u32 (e k : Int)) := cb'.trans (hb k km)
        have ek := he k
        have HYK : Hid (y k = e k) := by show y k = e k; rw [HY.out]; simp [pad, km]
        clear ca cb'
        by_cases lt : (d k : Int) - C - e k < 0
        · have HB : Hid (borrow d y (k + 1) = 1) := by show borrow d y (k + 1) = 1; have h1 := HC.out; have h2 := HYK.out; simp only [borrow, h1, h2]; rw [if_pos (by omega)]
          go_wp2
          go_roundw
          case rel => exact ⟨k + 1, by omega, by go_num, by rw [HB.out]; rfl, OK.set' k (subDig d y k) _ (by have h1 := HC.out; have h2 := HYK.out; have h3 := HB.out; simp only [subDig, h1, h2, h3]; omega) (by omega) (fun j hj => by by_cases e1 : j = k; subst e1; simp; rw [if_neg e1]; by_cases e2 : j < k; rw [if_pos e2, if_pos (by omega)]; rw [if_neg e2, if_neg (by omega)]), BK.setCell (Nat.le_refl _) _⟩
          case measure => simp [intOf]; omega
        · have HB : Hid (borrow d y (k + 1) = 0) := by show borrow d y (k + 1) = 0; have h1 := HC.out; have h2 := HYK.out; simp only [borrow, h1, h2]; rw [if_neg (by omega)]
          go_wp2
          go_roundw
          case rel => exact ⟨k + 1, by omega, by go_num, by rw [HB.out]; rfl, OK.set' k (subDig d y k) _ (by have h1 := HC.out; have h2 := HYK.out; have h3 := HB.out; simp only [subDig, h1, h2, h3]; omega) (by omega) (fun j hj => by by_cases e1 : j = k; subst e1; simp; rw [if_neg e1]; by_cases e2 : j < k; rw [if_pos e2, if_pos (by omega)]; rw [if_neg e2, if_neg (by omega)]), BK.setCell (Nat.le_refl _) _⟩
          case measure => simp [intOf]; omega
      · have HYK : Hid (y k = 0) := by show y k = 0; rw [HY.out]; simp [pad, km]
        clear ca cb'
        by_cases lt : (d k : Int) - C < 0
        · have HB : Hid (borrow d y (k + 1) = 1) := by show borrow d y (k + 1) = 1; have h1 := HC.out; have h2 := HYK.out; simp only [borrow, h1, h2]; rw [if_pos (by omega)]
          go_wp2
          go_roundw
          case rel => exact ⟨k + 1, by omega, by go_num, by rw [HB.out]; rfl, OK.set' k (subDig d y k) _ (by have h1 := HC.out; have h2 := HYK.out; have h3 := HB.out; simp only [subDig, h1, h2, h3]; omega) (by omega) (fun j hj => by by_cases e1 : j = k; subst e1; simp; rw [if_neg e1]; by_cases e2 : j < k; rw [if_pos e2, if_pos (by omega)]; rw [if_neg e2, if_neg (by omega)]), BK.setCell (Nat.le_refl _) _⟩
          case measure => simp [intOf]; omega
        · have HB : Hid (borrow d y (k + 1) = 0) := by show borrow d y (k + 1) = 0; have h1 := HC.out; have h2 := HYK.out; simp only [borrow, h1, h2]; rw [if_neg (by omega)]
          go_wp2
          go_roundw
          case rel => exact ⟨k + 1, by omega, by go_num, by rw [HB.out]; rfl, OK.set' k (subDig d y k) _ (by have h1 := HC.out; have h2 := HYK.out; have h3 := HB.out; simp only [subDig, h1, h2, h3]; omega) (by omega) (fun j hj => by by_cases e1 : j = k; subst e1; simp; rw [if_neg e1]; by_cases e2 : j < k; rw [if_pos e2, if_pos (by omega)]; rw [if_neg e2, if_neg (by omega)]), BK.setCell (Nat.le_refl _) _⟩
          case measure => simp [intOf]; omega
    · have hkk : k = n := by omega
      subst hkk
      go_wp2
      go_ret
      exact ⟨rfl, ⟨fun j hj => by have := OK.cell j hj; simpa [hj] using this, OK.free, OK.lo, OK.hi⟩, BK⟩
end Go.Proofs.YtamoakodlmjbiaaDoor
