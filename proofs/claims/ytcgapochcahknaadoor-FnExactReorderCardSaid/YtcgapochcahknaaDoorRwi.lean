/- Rows of instructions: what a call made, what came in; copies and comparisons of them (toInstrS, eqInstrS); conditions: the row stands in memory, at most 2^20 long. -/
import Derived.Test.YtcgapochcahknaaDoorMem
import Derived.Deep.RegionHeld3
import Derived.BigQuiet
import Derived.Deep.Slices
import Derived.Carry
namespace Go.Proofs.YtcgapochcahknaaDoor
open Go.ChangeShapes Go.WideShapes Go.ChangeAt Go.RowKit
set_option linter.unusedVariables false
theorem cell_put (w : World) (o i j : Nat) (v u : Value) (h : w.cell? ⟨o, i, none⟩ = some u) : (w.setCell ⟨o, j, none⟩ v).cell? ⟨o, i, none⟩ = some (if i = j then v else u) := by
  by_cases e : i = j
  · subst e
    rw [if_pos rfl]
    exact World.cell?_setCell_same' w _ _ (by rw [h]; rfl)
  · rw [if_neg e]
    have hne : (⟨o, j, none⟩ : Addr) ≠ ⟨o, i, none⟩ := by
      intro k; injection k with _ k2; exact e k2.symm
    rw [World.cell?_setCell_other (h := hne)]
    exact h
theorem grown_below {w w' : World} (h : Below w.heap.size w w') (row : Option Nat) : w.grownBy w' row := ⟨h.os, h.tape, h.output, h.size, fun k hk _ => h.block k hk⟩
/-- n structs of block o, from its head on; each may be written. -/
structure RowI (w : World) (o n : Nat) (F0 : Nat → Int) (F1 : Nat → Int) (F2 : Nat → Int) (F3 : Nat → Int) (F4 : Nat → Int) (F5 : Nat → Int) : Prop where
  c0 : ∀ i, i < n → w.cell? ⟨o, i * 6, none⟩ = some (.int .i64 (F0 i))
  c1 : ∀ i, i < n → w.cell? ⟨o, i * 6 + 1, none⟩ = some (.int .i64 (F1 i))
  c2 : ∀ i, i < n → w.cell? ⟨o, i * 6 + 2, none⟩ = some (.int .i64 (F2 i))
  c3 : ∀ i, i < n → w.cell? ⟨o, i * 6 + 3, none⟩ = some (.int .i64 (F3 i))
  c4 : ∀ i, i < n → w.cell? ⟨o, i * 6 + 4, none⟩ = some (.int .i64 (F4 i))
  c5 : ∀ i, i < n → w.cell? ⟨o, i * 6 + 5, none⟩ = some (.int .u32 (F5 i))
  free : ∀ i, w.frozen? ⟨o, i, none⟩ = false
  hi : o < w.heap.size
theorem RowI.mono {w : World} {o n m : Nat} {F0 : Nat → Int} {F1 : Nat → Int} {F2 : Nat → Int} {F3 : Nat → Int} {F4 : Nat → Int} {F5 : Nat → Int} {G0 : Nat → Int} {G1 : Nat → Int} {G2 : Nat → Int} {G3 : Nat → Int} {G4 : Nat → Int} {G5 : Nat → Int} (h : RowI w o n F0 F1 F2 F3 F4 F5) (hm : m ≤ n) (h0 : ∀ i, i < m → G0 i = F0 i) (h1 : ∀ i, i < m → G1 i = F1 i) (h2 : ∀ i, i < m → G2 i = F2 i) (h3 : ∀ i, i < m → G3 i = F3 i) (h4 : ∀ i, i < m → G4 i = F4 i) (h5 : ∀ i, i < m → G5 i = F5 i) : RowI w o m G0 G1 G2 G3 G4 G5 :=
  ⟨fun i hi => by rw [h0 i hi]; exact h.c0 i (by omega), fun i hi => by rw [h1 i hi]; exact h.c1 i (by omega), fun i hi => by rw [h2 i hi]; exact h.c2 i (by omega), fun i hi => by rw [h3 i hi]; exact h.c3 i (by omega), fun i hi => by rw [h4 i hi]; exact h.c4 i (by omega), fun i hi => by rw [h5 i hi]; exact h.c5 i (by omega), h.free, h.hi⟩
theorem RowI.next {w w' : World} {o n : Nat} {F0 : Nat → Int} {F1 : Nat → Int} {F2 : Nat → Int} {F3 : Nat → Int} {F4 : Nat → Int} {F5 : Nat → Int} (h : RowI w o n F0 F1 F2 F3 F4 F5) (hb : Below w.heap.size w w') : RowI w' o n F0 F1 F2 F3 F4 F5 := by
  have z := hb.size
  have zh := h.hi
  exact ⟨fun i hi => (hb.cell (p := ⟨o, i * 6, none⟩) h.hi).trans (h.c0 i hi), fun i hi => (hb.cell (p := ⟨o, i * 6 + 1, none⟩) h.hi).trans (h.c1 i hi), fun i hi => (hb.cell (p := ⟨o, i * 6 + 2, none⟩) h.hi).trans (h.c2 i hi), fun i hi => (hb.cell (p := ⟨o, i * 6 + 3, none⟩) h.hi).trans (h.c3 i hi), fun i hi => (hb.cell (p := ⟨o, i * 6 + 4, none⟩) h.hi).trans (h.c4 i hi), fun i hi => (hb.cell (p := ⟨o, i * 6 + 5, none⟩) h.hi).trans (h.c5 i hi), fun i => (hb.frozen (p := ⟨o, i, none⟩) h.hi).trans (h.free i), by omega⟩
theorem RowI.drewN {w : World} {o n : Nat} {F0 : Nat → Int} {F1 : Nat → Int} {F2 : Nat → Int} {F3 : Nat → Int} {F4 : Nat → Int} {F5 : Nat → Int} (h : RowI w o n F0 F1 F2 F3 F4 F5) (q : Nat) : RowI (w.drewN q) o n F0 F1 F2 F3 F4 F5 := ⟨h.c0, h.c1, h.c2, h.c3, h.c4, h.c5, h.free, h.hi⟩
theorem RowI.grown {w w' : World} {o n : Nat} {F0 : Nat → Int} {F1 : Nat → Int} {F2 : Nat → Int} {F3 : Nat → Int} {F4 : Nat → Int} {F5 : Nat → Int} {row : Option Nat} (h : RowI w o n F0 F1 F2 F3 F4 F5) (hb : w.grownBy w' row) (hne : some o ≠ row) : RowI w' o n F0 F1 F2 F3 F4 F5 := by
  have z := hb.size
  have zh := h.hi
  have b := hb.block o zh hne
  exact ⟨fun i hi => (World.cell?_of_block (w := w) (a := ⟨o, i * 6, none⟩) b).trans (h.c0 i hi), fun i hi => (World.cell?_of_block (w := w) (a := ⟨o, i * 6 + 1, none⟩) b).trans (h.c1 i hi), fun i hi => (World.cell?_of_block (w := w) (a := ⟨o, i * 6 + 2, none⟩) b).trans (h.c2 i hi), fun i hi => (World.cell?_of_block (w := w) (a := ⟨o, i * 6 + 3, none⟩) b).trans (h.c3 i hi), fun i hi => (World.cell?_of_block (w := w) (a := ⟨o, i * 6 + 4, none⟩) b).trans (h.c4 i hi), fun i hi => (World.cell?_of_block (w := w) (a := ⟨o, i * 6 + 5, none⟩) b).trans (h.c5 i hi), fun i => (World.frozen?_of_block (w := w) (a := ⟨o, i, none⟩) b).trans (h.free i), by omega⟩
theorem RowI.set0 {w : World} {o n : Nat} {F0 : Nat → Int} {F1 : Nat → Int} {F2 : Nat → Int} {F3 : Nat → Int} {F4 : Nat → Int} {F5 : Nat → Int} (h : RowI w o n F0 F1 F2 F3 F4 F5) (q : Nat) (a : Int) : RowI (w.setCell ⟨o, q * 6, none⟩ (.int .i64 a)) o n (fun i => if i = q then a else F0 i) F1 F2 F3 F4 F5 := by
  refine ⟨fun i hi => ?_, fun i hi => ?_, fun i hi => ?_, fun i hi => ?_, fun i hi => ?_, fun i hi => ?_, fun i => by simp [h.free i], by simpa using h.hi⟩
  · rw [cell_put _ _ _ _ _ _ (h.c0 i hi)]
    by_cases e : i = q
    · subst e; simp
    · rw [if_neg (by omega)]; simp [e]
  · rw [cell_put _ _ _ _ _ _ (h.c1 i hi), if_neg (by omega)]
  · rw [cell_put _ _ _ _ _ _ (h.c2 i hi), if_neg (by omega)]
  · rw [cell_put _ _ _ _ _ _ (h.c3 i hi), if_neg (by omega)]
  · rw [cell_put _ _ _ _ _ _ (h.c4 i hi), if_neg (by omega)]
  · rw [cell_put _ _ _ _ _ _ (h.c5 i hi), if_neg (by omega)]
theorem RowI.set1 {w : World} {o n : Nat} {F0 : Nat → Int} {F1 : Nat → Int} {F2 : Nat → Int} {F3 : Nat → Int} {F4 : Nat → Int} {F5 : Nat → Int} (h : RowI w o n F0 F1 F2 F3 F4 F5) (q : Nat) (a : Int) : RowI (w.setCell ⟨o, q * 6 + 1, none⟩ (.int .i64 a)) o n F0 (fun i => if i = q then a else F1 i) F2 F3 F4 F5 := by
  refine ⟨fun i hi => ?_, fun i hi => ?_, fun i hi => ?_, fun i hi => ?_, fun i hi => ?_, fun i hi => ?_, fun i => by simp [h.free i], by simpa using h.hi⟩
  · rw [cell_put _ _ _ _ _ _ (h.c0 i hi), if_neg (by omega)]
  · rw [cell_put _ _ _ _ _ _ (h.c1 i hi)]
    by_cases e : i = q
    · subst e; simp
    · rw [if_neg (by omega)]; simp [e]
  · rw [cell_put _ _ _ _ _ _ (h.c2 i hi), if_neg (by omega)]
  · rw [cell_put _ _ _ _ _ _ (h.c3 i hi), if_neg (by omega)]
  · rw [cell_put _ _ _ _ _ _ (h.c4 i hi), if_neg (by omega)]
  · rw [cell_put _ _ _ _ _ _ (h.c5 i hi), if_neg (by omega)]
theorem RowI.set2 {w : World} {o n : Nat} {F0 : Nat → Int} {F1 : Nat → Int} {F2 : Nat → Int} {F3 : Nat → Int} {F4 : Nat → Int} {F5 : Nat → Int} (h : RowI w o n F0 F1 F2 F3 F4 F5) (q : Nat) (a : Int) : RowI (w.setCell ⟨o, q * 6 + 2, none⟩ (.int .i64 a)) o n F0 F1 (fun i => if i = q then a else F2 i) F3 F4 F5 := by
  refine ⟨fun i hi => ?_, fun i hi => ?_, fun i hi => ?_, fun i hi => ?_, fun i hi => ?_, fun i hi => ?_, fun i => by simp [h.free i], by simpa using h.hi⟩
  · rw [cell_put _ _ _ _ _ _ (h.c0 i hi), if_neg (by omega)]
  · rw [cell_put _ _ _ _ _ _ (h.c1 i hi), if_neg (by omega)]
  · rw [cell_put _ _ _ _ _ _ (h.c2 i hi)]
    by_cases e : i = q
    · subst e; simp
    · rw [if_neg (by omega)]; simp [e]
  · rw [cell_put _ _ _ _ _ _ (h.c3 i hi), if_neg (by omega)]
  · rw [cell_put _ _ _ _ _ _ (h.c4 i hi), if_neg (by omega)]
  · rw [cell_put _ _ _ _ _ _ (h.c5 i hi), if_neg (by omega)]
theorem RowI.set3 {w : World} {o n : Nat} {F0 : Nat → Int} {F1 : Nat → Int} {F2 : Nat → Int} {F3 : Nat → Int} {F4 : Nat → Int} {F5 : Nat → Int} (h : RowI w o n F0 F1 F2 F3 F4 F5) (q : Nat) (a : Int) : RowI (w.setCell ⟨o, q * 6 + 3, none⟩ (.int .i64 a)) o n F0 F1 F2 (fun i => if i = q then a else F3 i) F4 F5 := by
  refine ⟨fun i hi => ?_, fun i hi => ?_, fun i hi => ?_, fun i hi => ?_, fun i hi => ?_, fun i hi => ?_, fun i => by simp [h.free i], by simpa using h.hi⟩
  · rw [cell_put _ _ _ _ _ _ (h.c0 i hi), if_neg (by omega)]
  · rw [cell_put _ _ _ _ _ _ (h.c1 i hi), if_neg (by omega)]
  · rw [cell_put _ _ _ _ _ _ (h.c2 i hi), if_neg (by omega)]
  · rw [cell_put _ _ _ _ _ _ (h.c3 i hi)]
    by_cases e : i = q
    · subst e; simp
    · rw [if_neg (by omega)]; simp [e]
  · rw [cell_put _ _ _ _ _ _ (h.c4 i hi), if_neg (by omega)]
  · rw [cell_put _ _ _ _ _ _ (h.c5 i hi), if_neg (by omega)]
theorem RowI.set4 {w : World} {o n : Nat} {F0 : Nat → Int} {F1 : Nat → Int} {F2 : Nat → Int} {F3 : Nat → Int} {F4 : Nat → Int} {F5 : Nat → Int} (h : RowI w o n F0 F1 F2 F3 F4 F5) (q : Nat) (a : Int) : RowI (w.setCell ⟨o, q * 6 + 4, none⟩ (.int .i64 a)) o n F0 F1 F2 F3 (fun i => if i = q then a else F4 i) F5 := by
  refine ⟨fun i hi => ?_, fun i hi => ?_, fun i hi => ?_, fun i hi => ?_, fun i hi => ?_, fun i hi => ?_, fun i => by simp [h.free i], by simpa using h.hi⟩
  · rw [cell_put _ _ _ _ _ _ (h.c0 i hi), if_neg (by omega)]
  · rw [cell_put _ _ _ _ _ _ (h.c1 i hi), if_neg (by omega)]
  · rw [cell_put _ _ _ _ _ _ (h.c2 i hi), if_neg (by omega)]
  · rw [cell_put _ _ _ _ _ _ (h.c3 i hi), if_neg (by omega)]
  · rw [cell_put _ _ _ _ _ _ (h.c4 i hi)]
    by_cases e : i = q
    · subst e; simp
    · rw [if_neg (by omega)]; simp [e]
  · rw [cell_put _ _ _ _ _ _ (h.c5 i hi), if_neg (by omega)]
theorem RowI.set5 {w : World} {o n : Nat} {F0 : Nat → Int} {F1 : Nat → Int} {F2 : Nat → Int} {F3 : Nat → Int} {F4 : Nat → Int} {F5 : Nat → Int} (h : RowI w o n F0 F1 F2 F3 F4 F5) (q : Nat) (a : Int) : RowI (w.setCell ⟨o, q * 6 + 5, none⟩ (.int .u32 a)) o n F0 F1 F2 F3 F4 (fun i => if i = q then a else F5 i) := by
  refine ⟨fun i hi => ?_, fun i hi => ?_, fun i hi => ?_, fun i hi => ?_, fun i hi => ?_, fun i hi => ?_, fun i => by simp [h.free i], by simpa using h.hi⟩
  · rw [cell_put _ _ _ _ _ _ (h.c0 i hi), if_neg (by omega)]
  · rw [cell_put _ _ _ _ _ _ (h.c1 i hi), if_neg (by omega)]
  · rw [cell_put _ _ _ _ _ _ (h.c2 i hi), if_neg (by omega)]
  · rw [cell_put _ _ _ _ _ _ (h.c3 i hi), if_neg (by omega)]
  · rw [cell_put _ _ _ _ _ _ (h.c4 i hi), if_neg (by omega)]
  · rw [cell_put _ _ _ _ _ _ (h.c5 i hi)]
    by_cases e : i = q
    · subst e; simp
    · rw [if_neg (by omega)]; simp [e]
/-- A slice of n structs that a call made, or none. -/
def RowIV (w : World) (v : Value) (n : Nat) (F0 : Nat → Int) (F1 : Nat → Int) (F2 : Nat → Int) (F3 : Nat → Int) (F4 : Nat → Int) (F5 : Nat → Int) : Prop := (n = 0 ∧ v = .slice none 0 0) ∨ ∃ o c, v = .slice (some ⟨o, 0, none⟩) n c ∧ RowI w o n F0 F1 F2 F3 F4 F5
theorem RowIV.grown {w w' : World} {v : Value} {n : Nat} {F0 : Nat → Int} {F1 : Nat → Int} {F2 : Nat → Int} {F3 : Nat → Int} {F4 : Nat → Int} {F5 : Nat → Int} {row : Option Nat} (h : RowIV w v n F0 F1 F2 F3 F4 F5) (hb : w.grownBy w' row) (hne : v.ownBlock = none ∨ v.ownBlock ≠ row) : RowIV w' v n F0 F1 F2 F3 F4 F5 := by
  rcases h with h | ⟨o, c, rfl, R⟩
  · exact Or.inl h
  · exact Or.inr ⟨o, c, rfl, R.grown hb (by simpa [Value.ownBlock] using hne)⟩
theorem RowIV.next {w w' : World} {v : Value} {n : Nat} {F0 : Nat → Int} {F1 : Nat → Int} {F2 : Nat → Int} {F3 : Nat → Int} {F4 : Nat → Int} {F5 : Nat → Int} (h : RowIV w v n F0 F1 F2 F3 F4 F5) (hb : Below w.heap.size w w') : RowIV w' v n F0 F1 F2 F3 F4 F5 := h.grown (grown_below hb none) (by cases hv : v.ownBlock <;> simp)
theorem RowIV.is {w : World} {v : Value} {n : Nat} {F0 : Nat → Int} {F1 : Nat → Int} {F2 : Nat → Int} {F3 : Nat → Int} {F4 : Nat → Int} {F5 : Nat → Int} (R : RowIV w v n F0 F1 F2 F3 F4 F5) : ∃ a l c, v = .slice a l c := by
  rcases R with ⟨_, rfl⟩ | ⟨o, c, rfl, _⟩
  · exact ⟨_, _, _, rfl⟩
  · exact ⟨_, _, _, rfl⟩
theorem RowIV.lt {w : World} {v : Value} {n : Nat} {F0 : Nat → Int} {F1 : Nat → Int} {F2 : Nat → Int} {F3 : Nat → Int} {F4 : Nat → Int} {F5 : Nat → Int} (h : RowIV w v n F0 F1 F2 F3 F4 F5) : ∀ g, v.ownBlock = some g → g < w.heap.size := by
  rcases h with ⟨_, rfl⟩ | ⟨o, c, rfl, R⟩
  · intro g hg; simp [Value.ownBlock] at hg
  · intro g hg; simp [Value.ownBlock] at hg; subst hg; exact R.hi
set_option maxRecDepth 100000 in
set_option maxHeartbeats 1000000 in
theorem eqOneI (x0 : Int) (x1 : Int) (x2 : Int) (x3 : Int) (x4 : Int) (x5 : Int) (w : World) : Calls Tryd.prog 37 #[.agg #[.int .i64 x0, .int .i64 x1, .int .i64 x2, .int .i64 x3, .int .i64 x4, .int .u32 x5], .agg #[.int .i64 x0, .int .i64 x1, .int .i64 x2, .int .i64 x3, .int .i64 x4, .int .u32 x5]] w fun r w' => r = .returned (.bool true) ∧ Below w.heap.size w w' := by
  go_enter Tryd.func37, Tryd.ntmps37
  go_wp2
  go_ret
  exact ⟨rfl, by repeat (first | (with_reducible refine Below.setCell ?_ (by first | omega | (simp; try omega)) _) | (with_reducible refine Below.alloc ?_ (by first | omega | (simp; try omega)) _) | (with_reducible exact Below.refl _ _))⟩
set_option maxRecDepth 100000 in
set_option maxHeartbeats 1000000 in
theorem eqRowI {n a b : Nat} {F0 : Nat → Int} {F1 : Nat → Int} {F2 : Nat → Int} {F3 : Nat → Int} {F4 : Nat → Int} {F5 : Nat → Int} {w : World} (X : RowI w a n F0 F1 F2 F3 F4 F5) (Y : RowI w b n F0 F1 F2 F3 F4 F5) (ca cb : Nat) (hn : n ≤ 1048576) :
    Calls Tryd.prog 13 #[.slice (some ⟨a, 0, none⟩) n ca, .slice (some ⟨b, 0, none⟩) n cb] w fun r w' => r = .returned (.bool true) ∧ Below w.heap.size w w' := by
  go_enter Tryd.func13, Tryd.ntmps13
  go_wp2
  go_loopw [5] (fun i wx => ∃ k : Nat, k ≤ n ∧ i = .int .i64 k ∧ Below w.heap.size w wx) (fun i _ => n - (intOf i).toNat)
  case atStart => exact ⟨0, by omega, rfl, Below.refl _ _⟩
  case round =>
    obtain ⟨k, hk, rfl, B⟩ := hrel
    by_cases hkn : k < n
    · have XX := X.next B
      have YY := Y.next B
      have a0 := XX.c0 k hkn
      have b0 := YY.c0 k hkn
      have a1 := XX.c1 k hkn
      have b1 := YY.c1 k hkn
      have a2 := XX.c2 k hkn
      have b2 := YY.c2 k hkn
      have a3 := XX.c3 k hkn
      have b3 := YY.c3 k hkn
      have a4 := XX.c4 k hkn
      have b4 := YY.c4 k hkn
      have a5 := XX.c5 k hkn
      have b5 := YY.c5 k hkn
      have i0 : (0 : Int) ≤ (k : Int) := by omega
      have i1 : (k : Int) < (n : Int) := by omega
      go_wp2
      go_region_with (go_at_call 37; refine (eqOneI (F0 k) (F1 k) (F2 k) (F3 k) (F4 k) (F5 k) _).mono ?_; rintro e w2 ⟨rfl, B2⟩; (have B3 : Below wr.heap.size wr w2 := ⟨B2.os, B2.tape, B2.output, B2.size, B2.block⟩))
      all_goals
        go_wp2
        go_roundw
        case rel => exact ⟨k + 1, by omega, by go_num, B.trans (B3.mono B.size)⟩
        case measure => simp [intOf]; omega
    · have hkk : k = n := by omega
      subst hkk
      go_wp2
      go_ret
      exact ⟨rfl, B⟩
set_option maxRecDepth 100000 in
theorem eqRowI0 (a b : Option Addr) (ca cb : Nat) (w : World) : Calls Tryd.prog 13 #[.slice a 0 ca, .slice b 0 cb] w fun r w' => r = .returned (.bool true) ∧ Below w.heap.size w w' := by
  go_enter Tryd.func13, Tryd.ntmps13
  go_wp2
  refine wp_loop_rounds 1 ?_
  rw [rounds_succ]
  go_wp2
  go_ret
  exact ⟨rfl, Below.refl _ _⟩
theorem eqRowIV {w : World} {u v : Value} {n : Nat} {F0 : Nat → Int} {F1 : Nat → Int} {F2 : Nat → Int} {F3 : Nat → Int} {F4 : Nat → Int} {F5 : Nat → Int} (X : RowIV w u n F0 F1 F2 F3 F4 F5) (Y : RowIV w v n F0 F1 F2 F3 F4 F5) (hn : n ≤ 1048576) :
    Calls Tryd.prog 13 #[u, v] w fun r w' => r = .returned (.bool true) ∧ Below w.heap.size w w' := by
  rcases X with ⟨rfl, rfl⟩ | ⟨o, c, rfl, X⟩
  · rcases Y with ⟨_, rfl⟩ | ⟨o, c, rfl, Y⟩
    · exact eqRowI0 _ _ _ _ w
    · exact eqRowI0 _ _ _ _ w
  · rcases Y with ⟨h0, rfl⟩ | ⟨o', c', rfl, Y⟩
    · subst h0; exact eqRowI0 _ _ _ _ w
    · exact eqRowI X Y _ _ hn
/-- A slice of structs that came in; of an empty one nothing is asked. -/
def ArgI (w : World) (a : Option Addr) (n : Nat) (F0 : Nat → Int) (F1 : Nat → Int) (F2 : Nat → Int) (F3 : Nat → Int) (F4 : Nat → Int) (F5 : Nat → Int) : Prop := n = 0 ∨ ∃ b off, a = some ⟨b, off, none⟩ ∧ b < w.heap.size ∧ ∀ i, i < n → w.cell? ⟨b, off + i * 6, none⟩ = some (.int .i64 (F0 i)) ∧ w.cell? ⟨b, off + i * 6 + 1, none⟩ = some (.int .i64 (F1 i)) ∧ w.cell? ⟨b, off + i * 6 + 2, none⟩ = some (.int .i64 (F2 i)) ∧ w.cell? ⟨b, off + i * 6 + 3, none⟩ = some (.int .i64 (F3 i)) ∧ w.cell? ⟨b, off + i * 6 + 4, none⟩ = some (.int .i64 (F4 i)) ∧ w.cell? ⟨b, off + i * 6 + 5, none⟩ = some (.int .u32 (F5 i))
theorem ArgI.next {w w' : World} {a : Option Addr} {n : Nat} {F0 : Nat → Int} {F1 : Nat → Int} {F2 : Nat → Int} {F3 : Nat → Int} {F4 : Nat → Int} {F5 : Nat → Int} (h : ArgI w a n F0 F1 F2 F3 F4 F5) (hb : Below w.heap.size w w') : ArgI w' a n F0 F1 F2 F3 F4 F5 := by
  rcases h with h | ⟨b, off, ha, hl, hc⟩
  · exact Or.inl h
  · exact Or.inr ⟨b, off, ha, by have := hb.size; omega, fun i hi => ⟨(hb.cell (p := ⟨b, off + i * 6, none⟩) hl).trans (hc i hi).1, (hb.cell (p := ⟨b, off + i * 6 + 1, none⟩) hl).trans (hc i hi).2.1, (hb.cell (p := ⟨b, off + i * 6 + 2, none⟩) hl).trans (hc i hi).2.2.1, (hb.cell (p := ⟨b, off + i * 6 + 3, none⟩) hl).trans (hc i hi).2.2.2.1, (hb.cell (p := ⟨b, off + i * 6 + 4, none⟩) hl).trans (hc i hi).2.2.2.2.1, (hb.cell (p := ⟨b, off + i * 6 + 5, none⟩) hl).trans (hc i hi).2.2.2.2.2⟩⟩
set_option maxRecDepth 100000 in
set_option maxHeartbeats 1000000 in
theorem toOneI (x0 : Int) (x1 : Int) (x2 : Int) (x3 : Int) (x4 : Int) (x5 : Int) (w : World) : Calls Tryd.prog 17 #[.agg #[.int .i64 x0, .int .i64 x1, .int .i64 x2, .int .i64 x3, .int .i64 x4, .int .u32 x5]] w fun r w' => r = .returned (.agg #[.int .i64 x0, .int .i64 x1, .int .i64 x2, .int .i64 x3, .int .i64 x4, .int .u32 x5]) ∧ Below w.heap.size w w' := by
  go_enter Tryd.func17, Tryd.ntmps17
  go_wp2
  exact bodyPost_ret (v := .agg #[.int .i64 x0, .int .i64 x1, .int .i64 x2, .int .i64 x3, .int .i64 x4, .int .u32 x5]) (by simp [results, Tryd.results17, go_sem]) rfl ⟨rfl, by repeat (first | (with_reducible refine Below.setCell ?_ (by first | omega | (simp; try omega)) _) | (with_reducible refine Below.alloc ?_ (by first | omega | (simp; try omega)) _) | (with_reducible exact Below.refl _ _))⟩
theorem madeI {w : World} {B n t : Nat} {w' : World} (h : w'.ownsRow B t 6 (.slice (some ⟨w.heap.size, 0, none⟩) n n) n (madeCells #[.int .i64 0, .int .i64 0, .int .i64 0, .int .i64 0, .int .i64 0, .int .u32 0] (n * 6)).toList) : RowI w' w.heap.size n (fun _ => 0) (fun _ => 0) (fun _ => 0) (fun _ => 0) (fun _ => 0) (fun _ => 0) := by
  refine ⟨fun i hi => ?_, fun i hi => ?_, fun i hi => ?_, fun i hi => ?_, fun i hi => ?_, fun i hi => ?_, fun i => h.frozenAt i, (h.lt _ rfl).2⟩
  · rw [h.cellAt (i * 6) (by omega)]
    have e : (i * 6) % 6 = 0 := by omega
    simp [madeCells, show i * 6 < n * 6 by omega, e]
  · rw [h.cellAt (i * 6 + 1) (by omega)]
    have e : (i * 6 + 1) % 6 = 1 := by omega
    simp [madeCells, show i * 6 + 1 < n * 6 by omega, e]
  · rw [h.cellAt (i * 6 + 2) (by omega)]
    have e : (i * 6 + 2) % 6 = 2 := by omega
    simp [madeCells, show i * 6 + 2 < n * 6 by omega, e]
  · rw [h.cellAt (i * 6 + 3) (by omega)]
    have e : (i * 6 + 3) % 6 = 3 := by omega
    simp [madeCells, show i * 6 + 3 < n * 6 by omega, e]
  · rw [h.cellAt (i * 6 + 4) (by omega)]
    have e : (i * 6 + 4) % 6 = 4 := by omega
    simp [madeCells, show i * 6 + 4 < n * 6 by omega, e]
  · rw [h.cellAt (i * 6 + 5) (by omega)]
    have e : (i * 6 + 5) % 6 = 5 := by omega
    simp [madeCells, show i * 6 + 5 < n * 6 by omega, e]
theorem infoI : (Tryd.prog.info? 35).map (fun i => (i.zero, i.size, i.bytes)) = some (some (.agg #[.int .i64 0, .int .i64 0, .int .i64 0, .int .i64 0, .int .i64 0, .int .u32 0]), 6, 48) := by kernel_rfl
set_option maxRecDepth 100000 in
set_option maxHeartbeats 2000000 in
theorem toRowI (n b off cap : Nat) (F0 : Nat → Int) (F1 : Nat → Int) (F2 : Nat → Int) (F3 : Nat → Int) (F4 : Nat → Int) (F5 : Nat → Int) (w : World) (hn : n ≤ 1048576) (hb : b < w.heap.size) (hc : ∀ i, i < n → w.cell? ⟨b, off + i * 6, none⟩ = some (.int .i64 (F0 i)) ∧ w.cell? ⟨b, off + i * 6 + 1, none⟩ = some (.int .i64 (F1 i)) ∧ w.cell? ⟨b, off + i * 6 + 2, none⟩ = some (.int .i64 (F2 i)) ∧ w.cell? ⟨b, off + i * 6 + 3, none⟩ = some (.int .i64 (F3 i)) ∧ w.cell? ⟨b, off + i * 6 + 4, none⟩ = some (.int .i64 (F4 i)) ∧ w.cell? ⟨b, off + i * 6 + 5, none⟩ = some (.int .u32 (F5 i))) :
    Calls Tryd.prog 11 #[.slice (some ⟨b, off, none⟩) n cap] w fun r w' => r = .returned (.slice (some ⟨w.heap.size, 0, none⟩) n n) ∧ RowI w' w.heap.size n F0 F1 F2 F3 F4 F5 ∧ Below w.heap.size w w' := by
  obtain ⟨i0, hi, hz0, hz1, hz2⟩ := info_parts infoI
  go_enter Tryd.func11, Tryd.ntmps11
  go_wp2_with (at_make; refine wpList_make_full _ rfl _ _ 24 rfl w.heap.size 35 i0 (.agg #[.int .i64 0, .int .i64 0, .int .i64 0, .int .i64 0, .int .i64 0, .int .u32 0]) 6 Tryd.underlying24 hi hz0 hz1 _ _ _ _ n rfl rfl (by first | rfl | omega) (by first | rfl | omega) (by rw [hz2]; omega) (by unfold maxLen; omega) (Nat.le_refl _) ?_; intro w1 hown hgrow)
  have O1 : RowI w1 w.heap.size n (fun _ => 0) (fun _ => 0) (fun _ => 0) (fun _ => 0) (fun _ => 0) (fun _ => 0) := madeI hown
  have B1 : Below w.heap.size w w1 := (Below.refl _ _).grown hgrow (Nat.le_refl _) (by simp)
  clear hown hgrow hi hz0 hz1 hz2
  go_loopw [4] (fun i wr => ∃ k : Nat, k ≤ n ∧ i = .int .i64 k ∧ RowI wr w.heap.size n (fun j => if j < k then F0 j else 0) (fun j => if j < k then F1 j else 0) (fun j => if j < k then F2 j else 0) (fun j => if j < k then F3 j else 0) (fun j => if j < k then F4 j else 0) (fun j => if j < k then F5 j else 0) ∧ Below w.heap.size w wr) (fun i _ => n - (intOf i).toNat)
  case atStart => exact ⟨0, by omega, rfl, O1.mono (Nat.le_refl _) (fun j _ => by simp) (fun j _ => by simp) (fun j _ => by simp) (fun j _ => by simp) (fun j _ => by simp) (fun j _ => by simp), B1⟩
  case round =>
    obtain ⟨k, hk, rfl, OK, BK⟩ := hrel
    by_cases hkn : k < n
    · have i1 : (k : Int) < (n : Int) := by omega
      have i0 : (0 : Int) ≤ (k : Int) := by omega
      have c0 : wr.cell? ⟨b, off + k * 6, none⟩ = some (.int .i64 (F0 k)) := (BK.cell (p := ⟨b, off + k * 6, none⟩) hb).trans (hc k hkn).1
      have c1 : wr.cell? ⟨b, off + k * 6 + 1, none⟩ = some (.int .i64 (F1 k)) := (BK.cell (p := ⟨b, off + k * 6 + 1, none⟩) hb).trans (hc k hkn).2.1
      have c2 : wr.cell? ⟨b, off + k * 6 + 2, none⟩ = some (.int .i64 (F2 k)) := (BK.cell (p := ⟨b, off + k * 6 + 2, none⟩) hb).trans (hc k hkn).2.2.1
      have c3 : wr.cell? ⟨b, off + k * 6 + 3, none⟩ = some (.int .i64 (F3 k)) := (BK.cell (p := ⟨b, off + k * 6 + 3, none⟩) hb).trans (hc k hkn).2.2.2.1
      have c4 : wr.cell? ⟨b, off + k * 6 + 4, none⟩ = some (.int .i64 (F4 k)) := (BK.cell (p := ⟨b, off + k * 6 + 4, none⟩) hb).trans (hc k hkn).2.2.2.2.1
      have c5 : wr.cell? ⟨b, off + k * 6 + 5, none⟩ = some (.int .u32 (F5 k)) := (BK.cell (p := ⟨b, off + k * 6 + 5, none⟩) hb).trans (hc k hkn).2.2.2.2.2
      go_wp2_with (go_at_call 17; refine (toOneI (F0 k) (F1 k) (F2 k) (F3 k) (F4 k) (F5 k) _).mono ?_; rintro e w2 ⟨rfl, B2⟩; (have O2 := OK.next B2); (have f0 := O2.free (k * 6)); (have g0 : w2.cell? ⟨w.heap.size, k * 6, none⟩ = some (.int .i64 0) := by have := O2.c0 k hkn; simpa using this); (have f1 := O2.free (k * 6 + 1)); (have g1 : w2.cell? ⟨w.heap.size, k * 6 + 1, none⟩ = some (.int .i64 0) := by have := O2.c1 k hkn; simpa using this); (have f2 := O2.free (k * 6 + 2)); (have g2 : w2.cell? ⟨w.heap.size, k * 6 + 2, none⟩ = some (.int .i64 0) := by have := O2.c2 k hkn; simpa using this); (have f3 := O2.free (k * 6 + 3)); (have g3 : w2.cell? ⟨w.heap.size, k * 6 + 3, none⟩ = some (.int .i64 0) := by have := O2.c3 k hkn; simpa using this); (have f4 := O2.free (k * 6 + 4)); (have g4 : w2.cell? ⟨w.heap.size, k * 6 + 4, none⟩ = some (.int .i64 0) := by have := O2.c4 k hkn; simpa using this); (have f5 := O2.free (k * 6 + 5)); (have g5 : w2.cell? ⟨w.heap.size, k * 6 + 5, none⟩ = some (.int .u32 0) := by have := O2.c5 k hkn; simpa using this))
      go_roundw
      case rel =>
        have up : ∀ {α : Type} (f : Nat → α) (z : α) (j : Nat), (if j < k + 1 then f j else z) = if j = k then f k else if j < k then f j else z := by
          intro α f z j
          by_cases e1 : j = k
          · subst e1; simp
          · rw [if_neg e1]; by_cases e2 : j < k
            · rw [if_pos e2, if_pos (by omega)]
            · rw [if_neg e2, if_neg (by omega)]
        have Bs := BK.trans (B2.mono BK.size)
        exact ⟨k + 1, by omega, by go_num, ((((((O2.set0 k (F0 k)).set1 k (F1 k)).set2 k (F2 k)).set3 k (F3 k)).set4 k (F4 k)).set5 k (F5 k)).mono (Nat.le_refl _) (fun j _ => up F0 0 j) (fun j _ => up F1 0 j) (fun j _ => up F2 0 j) (fun j _ => up F3 0 j) (fun j _ => up F4 0 j) (fun j _ => up F5 0 j), ((((((Bs.setCell (Nat.le_refl _) _).setCell (Nat.le_refl _) _).setCell (Nat.le_refl _) _).setCell (Nat.le_refl _) _).setCell (Nat.le_refl _) _).setCell (Nat.le_refl _) _)⟩
      case measure => simp [intOf]; omega
    · have hkk : k = n := by omega
      subst hkk
      go_wp2
      go_ret
      exact ⟨rfl, OK.mono (Nat.le_refl _) (fun j hj => by simp [hj]) (fun j hj => by simp [hj]) (fun j hj => by simp [hj]) (fun j hj => by simp [hj]) (fun j hj => by simp [hj]) (fun j hj => by simp [hj]), BK⟩
set_option maxRecDepth 100000 in
theorem toRowI0 (a : Option Addr) (cap : Nat) (F0 : Nat → Int) (F1 : Nat → Int) (F2 : Nat → Int) (F3 : Nat → Int) (F4 : Nat → Int) (F5 : Nat → Int) (w : World) :
    Calls Tryd.prog 11 #[.slice a 0 cap] w fun r w' => r = .returned (.slice (some ⟨w.heap.size, 0, none⟩) 0 0) ∧ RowI w' w.heap.size 0 F0 F1 F2 F3 F4 F5 ∧ Below w.heap.size w w' := by
  obtain ⟨i0, hi, hz0, hz1, hz2⟩ := info_parts infoI
  go_enter Tryd.func11, Tryd.ntmps11
  go_wp2_with (at_make; refine wpList_make_full _ rfl _ _ 24 rfl w.heap.size 35 i0 (.agg #[.int .i64 0, .int .i64 0, .int .i64 0, .int .i64 0, .int .i64 0, .int .u32 0]) 6 Tryd.underlying24 hi hz0 hz1 _ _ _ _ 0 rfl rfl (by first | rfl | omega) (by first | rfl | omega) (by rw [hz2]; omega) (by unfold maxLen; omega) (Nat.le_refl _) ?_; intro w1 hown hgrow)
  have O1 : RowI w1 w.heap.size 0 (fun _ => 0) (fun _ => 0) (fun _ => 0) (fun _ => 0) (fun _ => 0) (fun _ => 0) := madeI hown
  have B1 : Below w.heap.size w w1 := (Below.refl _ _).grown hgrow (Nat.le_refl _) (by simp)
  clear hown hgrow hi hz0 hz1 hz2
  refine wp_loop_rounds 1 ?_
  rw [rounds_succ]
  go_wp2
  go_ret
  exact ⟨rfl, O1.mono (Nat.le_refl _) (fun j hj => by omega) (fun j hj => by omega) (fun j hj => by omega) (fun j hj => by omega) (fun j hj => by omega) (fun j hj => by omega), B1⟩
theorem argToI {w : World} {a : Option Addr} {n : Nat} {F0 : Nat → Int} {F1 : Nat → Int} {F2 : Nat → Int} {F3 : Nat → Int} {F4 : Nat → Int} {F5 : Nat → Int} (h : ArgI w a n F0 F1 F2 F3 F4 F5) (cap : Nat) (hn : n ≤ 1048576) :
    Calls Tryd.prog 11 #[.slice a n cap] w fun r w' => r = .returned (.slice (some ⟨w.heap.size, 0, none⟩) n n) ∧ RowI w' w.heap.size n F0 F1 F2 F3 F4 F5 ∧ Below w.heap.size w w' := by
  rcases h with rfl | ⟨b, off, rfl, hl, hc⟩
  · exact toRowI0 a cap F0 F1 F2 F3 F4 F5 w
  · exact toRowI n b off cap F0 F1 F2 F3 F4 F5 w hn hl hc
theorem viewI {H : Type} {enc : TypeId × Value → H} {P : Program} {W : World} {base : Nat} {t e : TypeId} {f0 f1 f2 f3 f4 f5 : Field} {v : Value} {d : DataW H} {p : List MemPlace} (ht : P.underlying t = some (.slice e)) (he : P.underlying e = some (.struct #[f0, f1, f2, f3, f4, f5])) (ce : P.cellsOf e = 6)
    (o0 : f0.offset = 0) (o1 : f1.offset = 1) (o2 : f2.offset = 2) (o3 : f3.offset = 3) (o4 : f4.offset = 4) (o5 : f5.offset = 5) (c0 : P.cellsOf f0.type = 1) (c1 : P.cellsOf f1.type = 1) (c2 : P.cellsOf f2.type = 1) (c3 : P.cellsOf f3.type = 1) (c4 : P.cellsOf f4.type = 1) (c5 : P.cellsOf f5.type = 1) (u0 : P.underlying f0.type = some (.int .i64)) (u1 : P.underlying f1.type = some (.int .i64)) (u2 : P.underlying f2.type = some (.int .i64)) (u3 : P.underlying f3.type = some (.int .i64)) (u4 : P.underlying f4.type = some (.int .i64)) (u5 : P.underlying f5.type = some (.int .u32))
    (hok : Value.okWide P W .any base t v) (h : DataW.Trod enc P W 0 (fun _ => true) true t v d p) (hlt : ∀ x ∈ p, x.block < W.heap.size) :
    ∃ (a : Option Addr) (len cap : Nat) (F0 : Nat → Int) (F1 : Nat → Int) (F2 : Nat → Int) (F3 : Nat → Int) (F4 : Nat → Int) (F5 : Nat → Int), v = .slice a len cap ∧ len ≤ 9223372036854775807 ∧ ArgI W a len F0 F1 F2 F3 F4 F5 ∧ (∀ i, (Lit.int .i64 (F0 i)).wf = true) ∧ (∀ i, (Lit.int .i64 (F1 i)).wf = true) ∧ (∀ i, (Lit.int .i64 (F2 i)).wf = true) ∧ (∀ i, (Lit.int .i64 (F3 i)).wf = true) ∧ (∀ i, (Lit.int .i64 (F4 i)).wf = true) ∧ (∀ i, (Lit.int .u32 (F5 i)).wf = true) := by
  obtain ⟨a0, len, cap, rfl⟩ := okWide_slice ht hok
  obtain ⟨fuel, hf⟩ := h
  rcases Go.Deep.open_slice ht hf with ⟨hcs, hx⟩ | ⟨a, len', cap', m, n, D, Pl, hcs, _, hl, hm, hmm, hx, hel⟩
  · simp [Value.cells] at hcs
    obtain ⟨rfl, rfl, rfl⟩ := hcs
    exact ⟨_, 0, 0, fun _ => 0, fun _ => 0, fun _ => 0, fun _ => 0, fun _ => 0, fun _ => 0, rfl, by omega, Or.inl rfl, fun _ => rfl, fun _ => rfl, fun _ => rfl, fun _ => rfl, fun _ => rfl, fun _ => rfl⟩
  · simp [Value.cells] at hcs
    obtain ⟨rfl, rfl, rfl⟩ := hcs
    simp only [Prod.mk.injEq] at hx
    obtain ⟨rfl, rfl⟩ := hx
    simp only [if_true] at hmm
    have each : ∀ i, i < len → ∃ q : Int × Int × Int × Int × Int × Int, W.cell? (a.add (i * 6)) = some (.int .i64 q.1) ∧ W.cell? (a.add (i * 6 + 1)) = some (.int .i64 q.2.1) ∧ W.cell? (a.add (i * 6 + 2)) = some (.int .i64 q.2.2.1) ∧ W.cell? (a.add (i * 6 + 3)) = some (.int .i64 q.2.2.2.1) ∧ W.cell? (a.add (i * 6 + 4)) = some (.int .i64 q.2.2.2.2.1) ∧ W.cell? (a.add (i * 6 + 5)) = some (.int .u32 q.2.2.2.2.2) ∧ (Lit.int .i64 (q.1)).wf = true ∧ (Lit.int .i64 (q.2.1)).wf = true ∧ (Lit.int .i64 (q.2.2.1)).wf = true ∧ (Lit.int .i64 (q.2.2.2.1)).wf = true ∧ (Lit.int .i64 (q.2.2.2.2.1)).wf = true ∧ (Lit.int .u32 (q.2.2.2.2.2)).wf = true := by
      intro i hi
      obtain ⟨cs', h1, h2⟩ := hel i (by omega)
      rw [ce] at h1
      obtain ⟨_, hlen, hcell⟩ := World.cells?_some h1
      obtain ⟨xs, k, hk, hxy, _, hxl, hf⟩ := DataW.trod_struct he h2
      match xs, hxl, cs', hlen with
      | [y0, y1, y2, y3, y4, y5], _, [v0, v1, v2, v3, v4, v5], _ =>
        have g0 := hf 0 f0 rfl
        have g1 := hf 1 f1 rfl
        have g2 := hf 2 f2 rfl
        have g3 := hf 3 f3 rfl
        have g4 := hf 4 f4 rfl
        have g5 := hf 5 f5 rfl
        simp [o0, o1, o2, o3, o4, o5, c0, c1, c2, c3, c4, c5] at g0 g1 g2 g3 g4 g5
        have e0 := hcell 0 (by omega)
        have e1 := hcell 1 (by omega)
        have e2 := hcell 2 (by omega)
        have e3 := hcell 3 (by omega)
        have e4 := hcell 4 (by omega)
        have e5 := hcell 5 (by omega)
        rw [Go.Deep.add_add] at e0 e1 e2 e3 e4 e5
        obtain ⟨n0, hv0, _, hw0⟩ := DataW.trod_int u0 g0
        obtain ⟨n1, hv1, _, hw1⟩ := DataW.trod_int u1 g1
        obtain ⟨n2, hv2, _, hw2⟩ := DataW.trod_int u2 g2
        obtain ⟨n3, hv3, _, hw3⟩ := DataW.trod_int u3 g3
        obtain ⟨n4, hv4, _, hw4⟩ := DataW.trod_int u4 g4
        obtain ⟨n5, hv5, _, hw5⟩ := DataW.trod_int u5 g5
        simp only [List.cons.injEq, and_true] at hv0 hv1 hv2 hv3 hv4 hv5
        subst hv0 hv1 hv2 hv3 hv4 hv5
        exact ⟨(n0, n1, n2, n3, n4, n5), by simpa using e0, by simpa using e1, by simpa using e2, by simpa using e3, by simpa using e4, by simpa using e5, hw0, hw1, hw2, hw3, hw4, hw5⟩
    by_cases hl0 : len = 0
    · exact ⟨_, len, cap, fun _ => 0, fun _ => 0, fun _ => 0, fun _ => 0, fun _ => 0, fun _ => 0, rfl, by unfold maxLen at hm; omega, Or.inl hl0, fun _ => rfl, fun _ => rfl, fun _ => rfl, fun _ => rfl, fun _ => rfl, fun _ => rfl⟩
    · obtain ⟨q, hq⟩ := Go.Deep.choose_lt each
      obtain ⟨b, off, spot⟩ := a
      have hspot : spot = none := by simpa [Addr.add] using World.cell?_spot (hq 0 (by omega)).1
      subst hspot
      have hbW : b < W.heap.size := hlt (.cell b off) (List.mem_append.2 (Or.inl (MemPlace.mem_row.2 ⟨0, by rw [ce]; omega, by simp⟩)))
      refine ⟨_, len, cap, fun i => if i < len then (q i).1 else 0, fun i => if i < len then (q i).2.1 else 0, fun i => if i < len then (q i).2.2.1 else 0, fun i => if i < len then (q i).2.2.2.1 else 0, fun i => if i < len then (q i).2.2.2.2.1 else 0, fun i => if i < len then (q i).2.2.2.2.2 else 0, rfl, by unfold maxLen at hm; omega, Or.inr ⟨b, off, rfl, hbW, fun j hj => ?_⟩, fun i => ?_, fun i => ?_, fun i => ?_, fun i => ?_, fun i => ?_, fun i => ?_⟩
      · obtain ⟨h0, h1, h2, h3, h4, h5, _⟩ := hq j hj
        rw [add_plain] at h0 h1 h2 h3 h4 h5
        simp only [if_pos hj]
        exact ⟨h0, h1, h2, h3, h4, h5⟩
      · by_cases hj : i < len
        · simp only [if_pos hj]; exact (hq i hj).2.2.2.2.2.2.1
        · simp only [if_neg hj]; first | rfl | decide
      · by_cases hj : i < len
        · simp only [if_pos hj]; exact (hq i hj).2.2.2.2.2.2.2.1
        · simp only [if_neg hj]; first | rfl | decide
      · by_cases hj : i < len
        · simp only [if_pos hj]; exact (hq i hj).2.2.2.2.2.2.2.2.1
        · simp only [if_neg hj]; first | rfl | decide
      · by_cases hj : i < len
        · simp only [if_pos hj]; exact (hq i hj).2.2.2.2.2.2.2.2.2.1
        · simp only [if_neg hj]; first | rfl | decide
      · by_cases hj : i < len
        · simp only [if_pos hj]; exact (hq i hj).2.2.2.2.2.2.2.2.2.2.1
        · simp only [if_neg hj]; first | rfl | decide
      · by_cases hj : i < len
        · simp only [if_pos hj]; exact (hq i hj).2.2.2.2.2.2.2.2.2.2.2
        · simp only [if_neg hj]; first | rfl | decide
end Go.Proofs.YtcgapochcahknaaDoor
