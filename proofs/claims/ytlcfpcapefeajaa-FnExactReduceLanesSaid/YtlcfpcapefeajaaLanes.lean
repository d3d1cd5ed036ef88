/- Contracts of the masks' bits: l2On of the model, lanesOfMask of the program; conditions: the lane is below 17. -/
import Derived.Test.YtlcfpcapefeajaaView
import Derived.Laws.ShiftsVar
namespace Go.Proofs.Ytlcfpcapefeajaa
open Go.ChangeShapes Go.WideShapes Go.ChangeAt Go.RowKit
/-- Whether lane i of a mask is on. -/
def onM (m : Int) (i : Nat) : Bool := (bits .and .i64 (m / 2 ^ i) 1 == 1)
theorem on30 (m : Int) (k : Nat) (w : World) (hk : k < 17) : Calls Try.prog 30 #[.int .i64 m, .int .i64 k] w fun e w' => e = .returned (.bool (onM m k)) ∧ w' = w := by
  go_enter Try.func30, Try.ntmps30
  go_wp2
  go_ret
  exact ⟨rfl, rfl⟩
theorem own_alloc (w : World) (cs : Array Value) (t n : Nat) (f : Nat → Value) (h : ∀ i, i < n → cs[i]? = some (f i)) : Own (w.alloc (.cells cs t)) w.heap.size n f := by
  refine ⟨fun i hi => ?_, fun i => ?_, by simp⟩
  · rw [cell_of_row _ w.heap.size i cs t (0, 0) (heap_alloc_new w _)]; exact h i hi
  · exact frozen_of_row _ w.heap.size i cs t (heap_alloc_new w _)
theorem lt16 {i : Nat} (h : i < 16) : i = 0 ∨ i = 1 ∨ i = 2 ∨ i = 3 ∨ i = 4 ∨ i = 5 ∨ i = 6 ∨ i = 7 ∨ i = 8 ∨ i = 9 ∨ i = 10 ∨ i = 11 ∨ i = 12 ∨ i = 13 ∨ i = 14 ∨ i = 15 := by omega
def zero16 : Array Value := #[.bool false, .bool false, .bool false, .bool false, .bool false, .bool false, .bool false, .bool false, .bool false, .bool false, .bool false, .bool false, .bool false, .bool false, .bool false, .bool false]
theorem zero16_get (i : Nat) (h : i < 16) : zero16[i]? = some (.bool false) := by
  rcases lt16 h with rfl | rfl | rfl | rfl | rfl | rfl | rfl | rfl | rfl | rfl | rfl | rfl | rfl | rfl | rfl | rfl <;> rfl
/-- The lanes of a mask as an array. -/
def lanesV (m : Int) : Array Value := #[.bool (onM m 0), .bool (onM m 1), .bool (onM m 2), .bool (onM m 3), .bool (onM m 4), .bool (onM m 5), .bool (onM m 6), .bool (onM m 7), .bool (onM m 8), .bool (onM m 9), .bool (onM m 10), .bool (onM m 11), .bool (onM m 12), .bool (onM m 13), .bool (onM m 14), .bool (onM m 15)]
theorem lanesV_get (m : Int) (i : Nat) (h : i < 16) : (lanesV m)[i]? = some (.bool (onM m i)) := by
  rcases lt16 h with rfl | rfl | rfl | rfl | rfl | rfl | rfl | rfl | rfl | rfl | rfl | rfl | rfl | rfl | rfl | rfl <;> rfl

def put16 (wr : World) (o : Nat) (m : Int) : World := ((((((((((((((((wr.setCell ⟨o, 0, none⟩ (.bool (onM m 0))).setCell ⟨o, 1, none⟩ (.bool (onM m 1))).setCell ⟨o, 2, none⟩ (.bool (onM m 2))).setCell ⟨o, 3, none⟩ (.bool (onM m 3))).setCell ⟨o, 4, none⟩ (.bool (onM m 4))).setCell ⟨o, 5, none⟩ (.bool (onM m 5))).setCell ⟨o, 6, none⟩ (.bool (onM m 6))).setCell ⟨o, 7, none⟩ (.bool (onM m 7))).setCell ⟨o, 8, none⟩ (.bool (onM m 8))).setCell ⟨o, 9, none⟩ (.bool (onM m 9))).setCell ⟨o, 10, none⟩ (.bool (onM m 10))).setCell ⟨o, 11, none⟩ (.bool (onM m 11))).setCell ⟨o, 12, none⟩ (.bool (onM m 12))).setCell ⟨o, 13, none⟩ (.bool (onM m 13))).setCell ⟨o, 14, none⟩ (.bool (onM m 14))).setCell ⟨o, 15, none⟩ (.bool (onM m 15)))
theorem only_put16 (wr : World) (o : Nat) (m : Int) : Only o wr (put16 wr o m) := (((((((((((((((((Only.refl _ _).setCell 0 _).setCell 1 _).setCell 2 _).setCell 3 _).setCell 4 _).setCell 5 _).setCell 6 _).setCell 7 _).setCell 8 _).setCell 9 _).setCell 10 _).setCell 11 _).setCell 12 _).setCell 13 _).setCell 14 _).setCell 15 _)
theorem step (m : Int) (k j : Nat) : (if j < k + 1 then Value.bool (onM m j) else .bool false) = if j = k then .bool (onM m k) else if j < k then .bool (onM m j) else .bool false := by
  by_cases e1 : j = k
  · subst e1; simp
  · rw [if_neg e1]
    by_cases e2 : j < k
    · rw [if_pos e2, if_pos (by omega)]
    · rw [if_neg e2, if_neg (by omega)]
theorem own_put16 {wr : World} {o : Nat} (h : Own wr o 16 (fun _ => .bool false)) (m : Int) : Own (put16 wr o m) o 16 (fun j => .bool (onM m j)) := by
  have h0 : Own wr o 16 (fun j => if j < 0 then .bool (onM m j) else .bool false) := h.mono (Nat.le_refl _) (fun j _ => by simp)
  have h1 := h0.set 0 (.bool (onM m 0)) (by omega) (g := fun j => if j < 1 then .bool (onM m j) else .bool false) (fun j _ => step m 0 j)
  have h2 := h1.set 1 (.bool (onM m 1)) (by omega) (g := fun j => if j < 2 then .bool (onM m j) else .bool false) (fun j _ => step m 1 j)
  have h3 := h2.set 2 (.bool (onM m 2)) (by omega) (g := fun j => if j < 3 then .bool (onM m j) else .bool false) (fun j _ => step m 2 j)
  have h4 := h3.set 3 (.bool (onM m 3)) (by omega) (g := fun j => if j < 4 then .bool (onM m j) else .bool false) (fun j _ => step m 3 j)
  have h5 := h4.set 4 (.bool (onM m 4)) (by omega) (g := fun j => if j < 5 then .bool (onM m j) else .bool false) (fun j _ => step m 4 j)
  have h6 := h5.set 5 (.bool (onM m 5)) (by omega) (g := fun j => if j < 6 then .bool (onM m j) else .bool false) (fun j _ => step m 5 j)
  have h7 := h6.set 6 (.bool (onM m 6)) (by omega) (g := fun j => if j < 7 then .bool (onM m j) else .bool false) (fun j _ => step m 6 j)
  have h8 := h7.set 7 (.bool (onM m 7)) (by omega) (g := fun j => if j < 8 then .bool (onM m j) else .bool false) (fun j _ => step m 7 j)
  have h9 := h8.set 8 (.bool (onM m 8)) (by omega) (g := fun j => if j < 9 then .bool (onM m j) else .bool false) (fun j _ => step m 8 j)
  have h10 := h9.set 9 (.bool (onM m 9)) (by omega) (g := fun j => if j < 10 then .bool (onM m j) else .bool false) (fun j _ => step m 9 j)
  have h11 := h10.set 10 (.bool (onM m 10)) (by omega) (g := fun j => if j < 11 then .bool (onM m j) else .bool false) (fun j _ => step m 10 j)
  have h12 := h11.set 11 (.bool (onM m 11)) (by omega) (g := fun j => if j < 12 then .bool (onM m j) else .bool false) (fun j _ => step m 11 j)
  have h13 := h12.set 12 (.bool (onM m 12)) (by omega) (g := fun j => if j < 13 then .bool (onM m j) else .bool false) (fun j _ => step m 12 j)
  have h14 := h13.set 13 (.bool (onM m 13)) (by omega) (g := fun j => if j < 14 then .bool (onM m j) else .bool false) (fun j _ => step m 13 j)
  have h15 := h14.set 14 (.bool (onM m 14)) (by omega) (g := fun j => if j < 15 then .bool (onM m j) else .bool false) (fun j _ => step m 14 j)
  have h16 := h15.set 15 (.bool (onM m 15)) (by omega) (g := fun j => if j < 16 then .bool (onM m j) else .bool false) (fun j _ => step m 15 j)
  exact h16.mono (Nat.le_refl _) (fun j hj => by rw [if_pos hj])
set_option maxRecDepth 100000 in
set_option maxHeartbeats 4000000 in
theorem lanes31 (m : Int) (w : World) : Calls Try.prog 31 #[.int .i64 m] w fun e w' => e = .returned (.agg #[.bool (onM m 0), .bool (onM m 1), .bool (onM m 2), .bool (onM m 3), .bool (onM m 4), .bool (onM m 5), .bool (onM m 6), .bool (onM m 7), .bool (onM m 8), .bool (onM m 9), .bool (onM m 10), .bool (onM m 11), .bool (onM m 12), .bool (onM m 13), .bool (onM m 14), .bool (onM m 15)]) ∧ Below w.heap.size w w' := by
  go_enter Try.func31, Try.ntmps31
  go_wp2
  go_loopw [5] (fun i wr => ∃ k : Nat, k ≤ 16 ∧ i = .int .i64 k ∧ Own wr (w.heap.size + 1) 16 (fun j => if j < k then .bool (onM m j) else .bool false) ∧ Own wr w.heap.size 16 (fun _ => .bool false) ∧ Below w.heap.size w wr) (fun i _ => 16 - (intOf i).toNat)
  case atStart =>
    refine ⟨0, by omega, rfl, ?_, ?_, ?_⟩
    · have := own_alloc (w.alloc (.cells zero16 48)) zero16 48 16 (fun _ => .bool false) zero16_get
      simp only [World.size_alloc] at this
      exact this.mono (Nat.le_refl _) (fun j _ => by simp)
    · exact (own_alloc w zero16 48 16 (fun _ => .bool false) zero16_get).next ((Below.refl _ _).alloc (Nat.le_refl _) _)
    · exact ((Below.refl _ _).alloc (Nat.le_refl _) _).alloc (by simp) _
  case round =>
    obtain ⟨k, hk, rfl, OK, OR, BK⟩ := hrel
    by_cases hkn : k < 16
    · have i1 : (k : Int) < 16 := by omega
      have i0 : (0 : Int) ≤ (k : Int) := by omega
      have f0 := OK.free k
      have g0 : wr.cell? ⟨w.heap.size + 1, k, none⟩ = some (.bool false) := by have := OK.cell k hkn; simpa using this
      go_wp2
      go_roundw
      case rel => exact ⟨k + 1, by omega, by go_num, OK.set k _ hkn (fun j _ => by by_cases e1 : j = k; subst e1; simp; rfl; rw [if_neg e1]; by_cases e2 : j < k; rw [if_pos e2, if_pos (by omega)]; rw [if_neg e2, if_neg (by omega)]), OR.but ((Only.refl _ _).setCell _ _) (by omega), BK.setCell (by simp) _⟩
      case measure => simp [intOf]; omega
    · have hkk : k = 16 := by omega
      subst hkk
      have x0 : wr.cell? ⟨w.heap.size + 1, 0, none⟩ = some (.bool (onM m 0)) := by have := OK.cell 0 (by omega); simpa using this
      have y0 : wr.cell? ⟨w.heap.size, 0, none⟩ = some (.bool false) := OR.cell 0 (by omega)
      have g0 := OR.free 0
      have x1 : wr.cell? ⟨w.heap.size + 1, 1, none⟩ = some (.bool (onM m 1)) := by have := OK.cell 1 (by omega); simpa using this
      have y1 : wr.cell? ⟨w.heap.size, 1, none⟩ = some (.bool false) := OR.cell 1 (by omega)
      have g1 := OR.free 1
      have x2 : wr.cell? ⟨w.heap.size + 1, 2, none⟩ = some (.bool (onM m 2)) := by have := OK.cell 2 (by omega); simpa using this
      have y2 : wr.cell? ⟨w.heap.size, 2, none⟩ = some (.bool false) := OR.cell 2 (by omega)
      have g2 := OR.free 2
      have x3 : wr.cell? ⟨w.heap.size + 1, 3, none⟩ = some (.bool (onM m 3)) := by have := OK.cell 3 (by omega); simpa using this
      have y3 : wr.cell? ⟨w.heap.size, 3, none⟩ = some (.bool false) := OR.cell 3 (by omega)
      have g3 := OR.free 3
      have x4 : wr.cell? ⟨w.heap.size + 1, 4, none⟩ = some (.bool (onM m 4)) := by have := OK.cell 4 (by omega); simpa using this
      have y4 : wr.cell? ⟨w.heap.size, 4, none⟩ = some (.bool false) := OR.cell 4 (by omega)
      have g4 := OR.free 4
      have x5 : wr.cell? ⟨w.heap.size + 1, 5, none⟩ = some (.bool (onM m 5)) := by have := OK.cell 5 (by omega); simpa using this
      have y5 : wr.cell? ⟨w.heap.size, 5, none⟩ = some (.bool false) := OR.cell 5 (by omega)
      have g5 := OR.free 5
      have x6 : wr.cell? ⟨w.heap.size + 1, 6, none⟩ = some (.bool (onM m 6)) := by have := OK.cell 6 (by omega); simpa using this
      have y6 : wr.cell? ⟨w.heap.size, 6, none⟩ = some (.bool false) := OR.cell 6 (by omega)
      have g6 := OR.free 6
      have x7 : wr.cell? ⟨w.heap.size + 1, 7, none⟩ = some (.bool (onM m 7)) := by have := OK.cell 7 (by omega); simpa using this
      have y7 : wr.cell? ⟨w.heap.size, 7, none⟩ = some (.bool false) := OR.cell 7 (by omega)
      have g7 := OR.free 7
      have x8 : wr.cell? ⟨w.heap.size + 1, 8, none⟩ = some (.bool (onM m 8)) := by have := OK.cell 8 (by omega); simpa using this
      have y8 : wr.cell? ⟨w.heap.size, 8, none⟩ = some (.bool false) := OR.cell 8 (by omega)
      have g8 := OR.free 8
      have x9 : wr.cell? ⟨w.heap.size + 1, 9, none⟩ = some (.bool (onM m 9)) := by have := OK.cell 9 (by omega); simpa using this
      have y9 : wr.cell? ⟨w.heap.size, 9, none⟩ = some (.bool false) := OR.cell 9 (by omega)
      have g9 := OR.free 9
      have x10 : wr.cell? ⟨w.heap.size + 1, 10, none⟩ = some (.bool (onM m 10)) := by have := OK.cell 10 (by omega); simpa using this
      have y10 : wr.cell? ⟨w.heap.size, 10, none⟩ = some (.bool false) := OR.cell 10 (by omega)
      have g10 := OR.free 10
      have x11 : wr.cell? ⟨w.heap.size + 1, 11, none⟩ = some (.bool (onM m 11)) := by have := OK.cell 11 (by omega); simpa using this
      have y11 : wr.cell? ⟨w.heap.size, 11, none⟩ = some (.bool false) := OR.cell 11 (by omega)
      have g11 := OR.free 11
      have x12 : wr.cell? ⟨w.heap.size + 1, 12, none⟩ = some (.bool (onM m 12)) := by have := OK.cell 12 (by omega); simpa using this
      have y12 : wr.cell? ⟨w.heap.size, 12, none⟩ = some (.bool false) := OR.cell 12 (by omega)
      have g12 := OR.free 12
      have x13 : wr.cell? ⟨w.heap.size + 1, 13, none⟩ = some (.bool (onM m 13)) := by have := OK.cell 13 (by omega); simpa using this
      have y13 : wr.cell? ⟨w.heap.size, 13, none⟩ = some (.bool false) := OR.cell 13 (by omega)
      have g13 := OR.free 13
      have x14 : wr.cell? ⟨w.heap.size + 1, 14, none⟩ = some (.bool (onM m 14)) := by have := OK.cell 14 (by omega); simpa using this
      have y14 : wr.cell? ⟨w.heap.size, 14, none⟩ = some (.bool false) := OR.cell 14 (by omega)
      have g14 := OR.free 14
      have x15 : wr.cell? ⟨w.heap.size + 1, 15, none⟩ = some (.bool (onM m 15)) := by have := OK.cell 15 (by omega); simpa using this
      have y15 : wr.cell? ⟨w.heap.size, 15, none⟩ = some (.bool false) := OR.cell 15 (by omega)
      have g15 := OR.free 15
      clear OK
      go_wp2
      have O := own_put16 OR m
      have B : Below w.heap.size w (put16 wr w.heap.size m) := BK.trans ((only_put16 wr w.heap.size m).below (Nat.le_refl _) BK.size)
      show bodyPost Try.prog Try.f31 _ _ _ (put16 wr w.heap.size m)
      generalize put16 wr w.heap.size m = W' at O B
      have z0 := O.cell 0 (by omega)
      have z1 := O.cell 1 (by omega)
      have z2 := O.cell 2 (by omega)
      have z3 := O.cell 3 (by omega)
      have z4 := O.cell 4 (by omega)
      have z5 := O.cell 5 (by omega)
      have z6 := O.cell 6 (by omega)
      have z7 := O.cell 7 (by omega)
      have z8 := O.cell 8 (by omega)
      have z9 := O.cell 9 (by omega)
      have z10 := O.cell 10 (by omega)
      have z11 := O.cell 11 (by omega)
      have z12 := O.cell 12 (by omega)
      have z13 := O.cell 13 (by omega)
      have z14 := O.cell 14 (by omega)
      have z15 := O.cell 15 (by omega)
      exact bodyPost_ret (v := .agg #[.bool (onM m 0), .bool (onM m 1), .bool (onM m 2), .bool (onM m 3), .bool (onM m 4), .bool (onM m 5), .bool (onM m 6), .bool (onM m 7), .bool (onM m 8), .bool (onM m 9), .bool (onM m 10), .bool (onM m 11), .bool (onM m 12), .bool (onM m 13), .bool (onM m 14), .bool (onM m 15)]) (by simp [results, Try.results31, go_sem, z0, z1, z2, z3, z4, z5, z6, z7, z8, z9, z10, z11, z12, z13, z14, z15]) rfl ⟨rfl, B⟩
end Go.Proofs.Ytlcfpcapefeajaa
