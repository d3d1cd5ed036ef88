/- Rows of colors: as arguments, counted, copied, compared, marked; what is asked of each. -/
import Derived.Test.YthkngcdfnemhaaaBa
import Derived.Deep.Slices
namespace Go.Proofs.Ythkngcdfnemhaaa
open Go.ChangeShapes Go.WideShapes Go.ChangeAt Go.RowKit
set_option linter.unusedVariables false
theorem cell_put (w : World) (o i j : Nat) (v u : Value) (h : w.cell? ⟨o, i, none⟩ = some u) : (w.setCell ⟨o, j, none⟩ v).cell? ⟨o, i, none⟩ = some (if i = j then v else u) := by
  by_cases e : i = j
  · subst e
    rw [if_pos rfl]
    exact World.cell?_setCell_same' w _ _ (by rw [h]; rfl)
  · rw [if_neg e]
    have hne : (⟨o, j, none⟩ : Addr) ≠ ⟨o, i, none⟩ := by
      intro k; injection k with _ k2; exact e k2.symm
    rw [World.cell?_setCell_other (h := hne)]
    exact h
theorem upTo {α : Type} (f g : Nat → α) (k j : Nat) : (if j < k + 1 then f j else g j) = if j = k then f k else if j < k then f j else g j := by
  by_cases e1 : j = k
  · subst e1; simp
  · rw [if_neg e1]
    by_cases e2 : j < k
    · rw [if_pos e2, if_pos (by omega)]
    · rw [if_neg e2, if_neg (by omega)]
theorem grown_below {w w' : World} (hb : Below w.heap.size w w') (row : Option Nat) : w.grownBy w' row := ⟨hb.os, hb.tape, hb.output, hb.size, fun k hk _ => hb.block k hk⟩
theorem grown_trans {a b c : World} {row : Option Nat} (h : a.grownBy b row) (k : b.grownBy c row) : a.grownBy c row := ⟨k.os.trans h.os, k.tape.trans h.tape, k.output.trans h.output, Nat.le_trans h.size k.size, fun i hi hn => (k.block i (Nat.lt_of_lt_of_le hi h.size) hn).trans (h.block i hi hn)⟩
/-- n structs of block o, from its head on; each may be written. -/
structure RowH (w : World) (o n : Nat) (F0 : Nat → Int) (F1 : Nat → Int) (F2 : Nat → Int) (F3 : Nat → Int) : Prop where
  c0 : ∀ i, i < n → w.cell? ⟨o, i * 4, none⟩ = some (.int .i64 (F0 i))
  c1 : ∀ i, i < n → w.cell? ⟨o, i * 4 + 1, none⟩ = some (.int .i64 (F1 i))
  c2 : ∀ i, i < n → w.cell? ⟨o, i * 4 + 2, none⟩ = some (.int .i64 (F2 i))
  c3 : ∀ i, i < n → w.cell? ⟨o, i * 4 + 3, none⟩ = some (.int .i64 (F3 i))
  free : ∀ i, w.frozen? ⟨o, i, none⟩ = false
  hi : o < w.heap.size
theorem RowH.mono {w : World} {o n m : Nat} {F0 : Nat → Int} {F1 : Nat → Int} {F2 : Nat → Int} {F3 : Nat → Int} {G0 : Nat → Int} {G1 : Nat → Int} {G2 : Nat → Int} {G3 : Nat → Int} (h : RowH w o n F0 F1 F2 F3) (hm : m ≤ n) (h0 : ∀ i, i < m → G0 i = F0 i) (h1 : ∀ i, i < m → G1 i = F1 i) (h2 : ∀ i, i < m → G2 i = F2 i) (h3 : ∀ i, i < m → G3 i = F3 i) : RowH w o m G0 G1 G2 G3 :=
  ⟨fun i hi => by rw [h0 i hi]; exact h.c0 i (by omega), fun i hi => by rw [h1 i hi]; exact h.c1 i (by omega), fun i hi => by rw [h2 i hi]; exact h.c2 i (by omega), fun i hi => by rw [h3 i hi]; exact h.c3 i (by omega), h.free, h.hi⟩
theorem RowH.next {w w' : World} {o n : Nat} {F0 : Nat → Int} {F1 : Nat → Int} {F2 : Nat → Int} {F3 : Nat → Int} (h : RowH w o n F0 F1 F2 F3) (hb : Below w.heap.size w w') : RowH w' o n F0 F1 F2 F3 := by
  have z := hb.size
  have zh := h.hi
  exact ⟨fun i hi => (hb.cell (p := ⟨o, i * 4, none⟩) h.hi).trans (h.c0 i hi), fun i hi => (hb.cell (p := ⟨o, i * 4 + 1, none⟩) h.hi).trans (h.c1 i hi), fun i hi => (hb.cell (p := ⟨o, i * 4 + 2, none⟩) h.hi).trans (h.c2 i hi), fun i hi => (hb.cell (p := ⟨o, i * 4 + 3, none⟩) h.hi).trans (h.c3 i hi), fun i => (hb.frozen (p := ⟨o, i, none⟩) h.hi).trans (h.free i), by omega⟩
theorem RowH.drewN {w : World} {o n : Nat} {F0 : Nat → Int} {F1 : Nat → Int} {F2 : Nat → Int} {F3 : Nat → Int} (h : RowH w o n F0 F1 F2 F3) (q : Nat) : RowH (w.drewN q) o n F0 F1 F2 F3 := ⟨h.c0, h.c1, h.c2, h.c3, h.free, h.hi⟩
theorem RowH.grown {w w' : World} {o n : Nat} {F0 : Nat → Int} {F1 : Nat → Int} {F2 : Nat → Int} {F3 : Nat → Int} {row : Option Nat} (h : RowH w o n F0 F1 F2 F3) (hb : w.grownBy w' row) (hne : some o ≠ row) : RowH w' o n F0 F1 F2 F3 := by
  have z := hb.size
  have zh := h.hi
  have b := hb.block o zh hne
  exact ⟨fun i hi => (World.cell?_of_block (w := w) (a := ⟨o, i * 4, none⟩) b).trans (h.c0 i hi), fun i hi => (World.cell?_of_block (w := w) (a := ⟨o, i * 4 + 1, none⟩) b).trans (h.c1 i hi), fun i hi => (World.cell?_of_block (w := w) (a := ⟨o, i * 4 + 2, none⟩) b).trans (h.c2 i hi), fun i hi => (World.cell?_of_block (w := w) (a := ⟨o, i * 4 + 3, none⟩) b).trans (h.c3 i hi), fun i => (World.frozen?_of_block (w := w) (a := ⟨o, i, none⟩) b).trans (h.free i), by omega⟩
theorem RowH.set0 {w : World} {o n : Nat} {F0 : Nat → Int} {F1 : Nat → Int} {F2 : Nat → Int} {F3 : Nat → Int} (h : RowH w o n F0 F1 F2 F3) (q : Nat) (a : Int) : RowH (w.setCell ⟨o, q * 4, none⟩ (.int .i64 a)) o n (fun i => if i = q then a else F0 i) F1 F2 F3 := by
  refine ⟨fun i hi => ?_, fun i hi => ?_, fun i hi => ?_, fun i hi => ?_, fun i => by simp [h.free i], by simpa using h.hi⟩
  · rw [cell_put _ _ _ _ _ _ (h.c0 i hi)]
    by_cases e : i = q
    · subst e; simp
    · rw [if_neg (by omega)]; simp [e]
  · rw [cell_put _ _ _ _ _ _ (h.c1 i hi), if_neg (by omega)]
  · rw [cell_put _ _ _ _ _ _ (h.c2 i hi), if_neg (by omega)]
  · rw [cell_put _ _ _ _ _ _ (h.c3 i hi), if_neg (by omega)]
theorem RowH.set1 {w : World} {o n : Nat} {F0 : Nat → Int} {F1 : Nat → Int} {F2 : Nat → Int} {F3 : Nat → Int} (h : RowH w o n F0 F1 F2 F3) (q : Nat) (a : Int) : RowH (w.setCell ⟨o, q * 4 + 1, none⟩ (.int .i64 a)) o n F0 (fun i => if i = q then a else F1 i) F2 F3 := by
  refine ⟨fun i hi => ?_, fun i hi => ?_, fun i hi => ?_, fun i hi => ?_, fun i => by simp [h.free i], by simpa using h.hi⟩
  · rw [cell_put _ _ _ _ _ _ (h.c0 i hi), if_neg (by omega)]
  · rw [cell_put _ _ _ _ _ _ (h.c1 i hi)]
    by_cases e : i = q
    · subst e; simp
    · rw [if_neg (by omega)]; simp [e]
  · rw [cell_put _ _ _ _ _ _ (h.c2 i hi), if_neg (by omega)]
  · rw [cell_put _ _ _ _ _ _ (h.c3 i hi), if_neg (by omega)]
theorem RowH.set2 {w : World} {o n : Nat} {F0 : Nat → Int} {F1 : Nat → Int} {F2 : Nat → Int} {F3 : Nat → Int} (h : RowH w o n F0 F1 F2 F3) (q : Nat) (a : Int) : RowH (w.setCell ⟨o, q * 4 + 2, none⟩ (.int .i64 a)) o n F0 F1 (fun i => if i = q then a else F2 i) F3 := by
  refine ⟨fun i hi => ?_, fun i hi => ?_, fun i hi => ?_, fun i hi => ?_, fun i => by simp [h.free i], by simpa using h.hi⟩
  · rw [cell_put _ _ _ _ _ _ (h.c0 i hi), if_neg (by omega)]
  · rw [cell_put _ _ _ _ _ _ (h.c1 i hi), if_neg (by omega)]
  · rw [cell_put _ _ _ _ _ _ (h.c2 i hi)]
    by_cases e : i = q
    · subst e; simp
    · rw [if_neg (by omega)]; simp [e]
  · rw [cell_put _ _ _ _ _ _ (h.c3 i hi), if_neg (by omega)]
theorem RowH.set3 {w : World} {o n : Nat} {F0 : Nat → Int} {F1 : Nat → Int} {F2 : Nat → Int} {F3 : Nat → Int} (h : RowH w o n F0 F1 F2 F3) (q : Nat) (a : Int) : RowH (w.setCell ⟨o, q * 4 + 3, none⟩ (.int .i64 a)) o n F0 F1 F2 (fun i => if i = q then a else F3 i) := by
  refine ⟨fun i hi => ?_, fun i hi => ?_, fun i hi => ?_, fun i hi => ?_, fun i => by simp [h.free i], by simpa using h.hi⟩
  · rw [cell_put _ _ _ _ _ _ (h.c0 i hi), if_neg (by omega)]
  · rw [cell_put _ _ _ _ _ _ (h.c1 i hi), if_neg (by omega)]
  · rw [cell_put _ _ _ _ _ _ (h.c2 i hi), if_neg (by omega)]
  · rw [cell_put _ _ _ _ _ _ (h.c3 i hi)]
    by_cases e : i = q
    · subst e; simp
    · rw [if_neg (by omega)]; simp [e]
/-- A slice of n structs that a call made, or none. -/
def RowHV (w : World) (v : Value) (n : Nat) (F0 : Nat → Int) (F1 : Nat → Int) (F2 : Nat → Int) (F3 : Nat → Int) : Prop := (n = 0 ∧ v = .slice none 0 0) ∨ ∃ o c, v = .slice (some ⟨o, 0, none⟩) n c ∧ RowH w o n F0 F1 F2 F3
theorem RowHV.grown {w w' : World} {v : Value} {n : Nat} {F0 : Nat → Int} {F1 : Nat → Int} {F2 : Nat → Int} {F3 : Nat → Int} {row : Option Nat} (h : RowHV w v n F0 F1 F2 F3) (hb : w.grownBy w' row) (hne : v.ownBlock = none ∨ v.ownBlock ≠ row) : RowHV w' v n F0 F1 F2 F3 := by
  rcases h with h | ⟨o, c, rfl, R⟩
  · exact Or.inl h
  · exact Or.inr ⟨o, c, rfl, R.grown hb (by simpa [Value.ownBlock] using hne)⟩
theorem RowHV.next {w w' : World} {v : Value} {n : Nat} {F0 : Nat → Int} {F1 : Nat → Int} {F2 : Nat → Int} {F3 : Nat → Int} (h : RowHV w v n F0 F1 F2 F3) (hb : Below w.heap.size w w') : RowHV w' v n F0 F1 F2 F3 := h.grown (grown_below hb none) (by cases hv : v.ownBlock <;> simp)
theorem RowHV.is {w : World} {v : Value} {n : Nat} {F0 : Nat → Int} {F1 : Nat → Int} {F2 : Nat → Int} {F3 : Nat → Int} (R : RowHV w v n F0 F1 F2 F3) : ∃ a l c, v = .slice a l c := by
  rcases R with ⟨_, rfl⟩ | ⟨o, c, rfl, _⟩
  · exact ⟨_, _, _, rfl⟩
  · exact ⟨_, _, _, rfl⟩
theorem RowHV.lt {w : World} {v : Value} {n : Nat} {F0 : Nat → Int} {F1 : Nat → Int} {F2 : Nat → Int} {F3 : Nat → Int} (h : RowHV w v n F0 F1 F2 F3) : ∀ g, v.ownBlock = some g → g < w.heap.size := by
  rcases h with ⟨_, rfl⟩ | ⟨o, c, rfl, R⟩
  · intro g hg; simp [Value.ownBlock] at hg
  · intro g hg; simp [Value.ownBlock] at hg; subst hg; exact R.hi
set_option maxRecDepth 100000 in
set_option maxHeartbeats 1000000 in
theorem eqOneH (x0 : Int) (x1 : Int) (x2 : Int) (x3 : Int) (w : World) : Calls Try.prog 22 #[.agg #[.int .i64 x0, .int .i64 x1, .int .i64 x2, .int .i64 x3], .agg #[.int .i64 x0, .int .i64 x1, .int .i64 x2, .int .i64 x3]] w fun r w' => r = .returned (.bool true) ∧ Below w.heap.size w w' := by
  go_enter Try.func22, Try.ntmps22
  go_wp2
  go_ret
  exact ⟨rfl, by repeat (first | (with_reducible refine Below.setCell ?_ (by first | omega | (simp; try omega)) _) | (with_reducible refine Below.alloc ?_ (by first | omega | (simp; try omega)) _) | (with_reducible exact Below.refl _ _))⟩
set_option maxRecDepth 100000 in
set_option maxHeartbeats 1000000 in
theorem eqRowH {n a b : Nat} {F0 : Nat → Int} {F1 : Nat → Int} {F2 : Nat → Int} {F3 : Nat → Int} {w : World} (X : RowH w a n F0 F1 F2 F3) (Y : RowH w b n F0 F1 F2 F3) (ca cb : Nat) (hn : n ≤ 1048576) :
    Calls Try.prog 32 #[.slice (some ⟨a, 0, none⟩) n ca, .slice (some ⟨b, 0, none⟩) n cb] w fun r w' => r = .returned (.bool true) ∧ Below w.heap.size w w' := by
  go_enter Try.func32, Try.ntmps32
  go_wp2
  go_loopw [5] (fun i wx => ∃ k : Nat, k ≤ n ∧ i = .int .i64 k ∧ Below w.heap.size w wx) (fun i _ => n - (intOf i).toNat)
  case atStart => exact ⟨0, by omega, rfl, Below.refl _ _⟩
  case round =>
    obtain ⟨k, hk, rfl, B⟩ := hrel
    by_cases hkn : k < n
    · have XX := X.next B
      have YY := Y.next B
      have a0 := XX.c0 k hkn
      have b0 := YY.c0 k hkn
      have a1 := XX.c1 k hkn
      have b1 := YY.c1 k hkn
      have a2 := XX.c2 k hkn
      have b2 := YY.c2 k hkn
      have a3 := XX.c3 k hkn
      have b3 := YY.c3 k hkn
      have i0 : (0 : Int) ≤ (k : Int) := by omega
      have i1 : (k : Int) < (n : Int) := by omega
      go_wp2
      go_region_with (go_at_call 22; refine (eqOneH (F0 k) (F1 k) (F2 k) (F3 k) _).mono ?_; rintro e w2 ⟨rfl, B2⟩; (have B3 : Below wr.heap.size wr w2 := ⟨B2.os, B2.tape, B2.output, B2.size, B2.block⟩))
      all_goals
        go_wp2
        go_roundw
        case rel => exact ⟨k + 1, by omega, by go_num, B.trans (B3.mono B.size)⟩
        case measure => simp [intOf]; omega
    · have hkk : k = n := by omega
      subst hkk
      go_wp2
      go_ret
      exact ⟨rfl, B⟩
set_option maxRecDepth 100000 in
theorem eqRowH0 (a b : Option Addr) (ca cb : Nat) (w : World) : Calls Try.prog 32 #[.slice a 0 ca, .slice b 0 cb] w fun r w' => r = .returned (.bool true) ∧ Below w.heap.size w w' := by
  go_enter Try.func32, Try.ntmps32
  go_wp2
  refine wp_loop_rounds 1 ?_
  rw [rounds_succ]
  go_wp2
  go_ret
  exact ⟨rfl, Below.refl _ _⟩
theorem eqRowHV {w : World} {u v : Value} {n : Nat} {F0 : Nat → Int} {F1 : Nat → Int} {F2 : Nat → Int} {F3 : Nat → Int} (X : RowHV w u n F0 F1 F2 F3) (Y : RowHV w v n F0 F1 F2 F3) (hn : n ≤ 1048576) :
    Calls Try.prog 32 #[u, v] w fun r w' => r = .returned (.bool true) ∧ Below w.heap.size w w' := by
  rcases X with ⟨rfl, rfl⟩ | ⟨o, c, rfl, X⟩
  · rcases Y with ⟨_, rfl⟩ | ⟨o, c, rfl, Y⟩
    · exact eqRowH0 _ _ _ _ w
    · exact eqRowH0 _ _ _ _ w
  · rcases Y with ⟨h0, rfl⟩ | ⟨o', c', rfl, Y⟩
    · subst h0; exact eqRowH0 _ _ _ _ w
    · exact eqRowH X Y _ _ hn
def mkH0 (i : Nat) : Int := ((1 + 4 * i : Nat) : Int)
def mkH1 (i : Nat) : Int := ((1 + 4 * i + 1 : Nat) : Int)
def mkH2 (i : Nat) : Int := ((1 + 4 * i + 2 : Nat) : Int)
def mkH3 (i : Nat) : Int := ((1 + 4 * i + 3 : Nat) : Int)
set_option maxHeartbeats 2000000 in
set_option maxRecDepth 100000 in
theorem markH {w : World} {o n : Nat} {F0 : Nat → Int} {F1 : Nat → Int} {F2 : Nat → Int} {F3 : Nat → Int} (R : RowH w o n F0 F1 F2 F3) (c : Nat) (hn : n ≤ 1048576) :
    Calls Try.prog 33 #[.slice (some ⟨o, 0, none⟩) n c, .int .i64 1] w fun r w' => r = .returned (.int .i64 ((1 + 4 * n : Nat) : Int)) ∧ RowH w' o n mkH0 mkH1 mkH2 mkH3 ∧ Only o w w' := by
  go_enter Try.func33, Try.ntmps33
  go_wp2
  go_loopw [1, 5] (fun l i wr => ∃ k : Nat, k ≤ n ∧ i = .int .i64 k ∧ l = .int .i64 ((1 + 4 * k : Nat) : Int) ∧ RowH wr o n (fun j => if j < k then mkH0 j else F0 j) (fun j => if j < k then mkH1 j else F1 j) (fun j => if j < k then mkH2 j else F2 j) (fun j => if j < k then mkH3 j else F3 j) ∧ Only o w wr) (fun _ i _ => n - (intOf i).toNat)
  case atStart => exact ⟨0, by omega, rfl, rfl, R.mono (Nat.le_refl _) (fun j _ => by simp) (fun j _ => by simp) (fun j _ => by simp) (fun j _ => by simp), Only.refl _ _⟩
  case round =>
    obtain ⟨k, hk, rfl, rfl, RK, OK⟩ := hrel
    by_cases hkn : k < n
    · have i1 : (k : Int) < (n : Int) := by omega
      have i0 : (0 : Int) ≤ (k : Int) := by omega
      obtain ⟨M, hM⟩ : ∃ M : Nat, 1 + 4 * k = M := ⟨_, rfl⟩
      have M0 : M ≤ 4194305 := by omega
      have HM : Hid (1 + 4 * k = M) := hM
      rw [hM]
      have f0 := RK.free (k * 4)
      have g0 : wr.cell? ⟨o, k * 4, none⟩ = some (.int .i64 (F0 k)) := by have := RK.c0 k hkn; simpa using this
      have f1 := RK.free (k * 4 + 1)
      have g1 : wr.cell? ⟨o, k * 4 + 1, none⟩ = some (.int .i64 (F1 k)) := by have := RK.c1 k hkn; simpa using this
      have f2 := RK.free (k * 4 + 2)
      have g2 : wr.cell? ⟨o, k * 4 + 2, none⟩ = some (.int .i64 (F2 k)) := by have := RK.c2 k hkn; simpa using this
      have f3 := RK.free (k * 4 + 3)
      have g3 : wr.cell? ⟨o, k * 4 + 3, none⟩ = some (.int .i64 (F3 k)) := by have := RK.c3 k hkn; simpa using this
      have R0a := RK.set0 k (((M : Nat) : Int))
      have O0a := OK.setCell (k * 4) (.int .i64 (((M : Nat) : Int)))
      have R1a := R0a.set1 k (((M : Nat) : Int) + 1)
      have O1a := O0a.setCell (k * 4 + 1) (.int .i64 (((M : Nat) : Int) + 1))
      have R2a := R1a.set2 k (((M : Nat) : Int) + 1 + 1)
      have O2a := O1a.setCell (k * 4 + 2) (.int .i64 (((M : Nat) : Int) + 1 + 1))
      have R3a := R2a.set3 k (((M : Nat) : Int) + 1 + 1 + 1)
      have O3a := O2a.setCell (k * 4 + 3) (.int .i64 (((M : Nat) : Int) + 1 + 1 + 1))
      have HR0 : Hid (_) := R3a
      have HO0 : Hid (_) := O3a
      clear R0a O0a R1a O1a R2a O2a R3a O3a RK OK
      clear hM
      go_wp2
      have hM := HM.out
      have q0 : mkH0 k = ((M : Nat) : Int) := by unfold mkH0; rw [hM]
      have q1 : mkH1 k = ((M : Nat) : Int) + 1 := by unfold mkH1; rw [hM]; omega
      have q2 : mkH2 k = ((M : Nat) : Int) + 1 + 1 := by unfold mkH2; rw [hM]; omega
      have q3 : mkH3 k = ((M : Nat) : Int) + 1 + 1 + 1 := by unfold mkH3; rw [hM]; omega
      refine ⟨⟨k + 1, by omega, by go_num, by congr 1; omega, (HR0.out).mono (Nat.le_refl _) (fun j _ => ?_) (fun j _ => ?_) (fun j _ => ?_) (fun j _ => ?_), HO0.out⟩, by simp [intOf]; omega⟩
      · rw [← q0]; exact upTo mkH0 F0 k j
      · rw [← q1]; exact upTo mkH1 F1 k j
      · rw [← q2]; exact upTo mkH2 F2 k j
      · rw [← q3]; exact upTo mkH3 F3 k j
    · have hkk : k = n := by omega
      subst hkk
      go_wp2
      go_ret
      exact ⟨rfl, RK.mono (Nat.le_refl _) (fun j hj => by simp [hj]) (fun j hj => by simp [hj]) (fun j hj => by simp [hj]) (fun j hj => by simp [hj]), OK⟩
set_option maxRecDepth 100000 in
theorem markH0 (a : Option Addr) (c : Nat) (w : World) : Calls Try.prog 33 #[.slice a 0 c, .int .i64 1] w fun r w' => r = .returned (.int .i64 1) ∧ w' = w := by
  go_enter Try.func33, Try.ntmps33
  go_wp2
  refine wp_loop_rounds 1 ?_
  rw [rounds_succ]
  go_wp2
  go_ret
  exact ⟨rfl, rfl⟩
theorem markHV {w : World} {v : Value} {n : Nat} {F0 : Nat → Int} {F1 : Nat → Int} {F2 : Nat → Int} {F3 : Nat → Int} (R : RowHV w v n F0 F1 F2 F3) (hn : n ≤ 1048576) :
    Calls Try.prog 33 #[v, .int .i64 1] w fun r w' => r = .returned (.int .i64 ((1 + 4 * n : Nat) : Int)) ∧ RowHV w' v n mkH0 mkH1 mkH2 mkH3 ∧ w.grownBy w' v.ownBlock := by
  rcases R with ⟨rfl, rfl⟩ | ⟨o, c, rfl, R⟩
  · exact (markH0 none 0 w).mono fun e w' ⟨h1, h2⟩ => ⟨h1, Or.inl ⟨rfl, rfl⟩, by rw [h2]; exact grown_below (Below.refl _ _) _⟩
  · exact (markH R c hn).mono fun e w' ⟨h1, h2, h3⟩ => ⟨h1, Or.inr ⟨o, c, rfl, h2⟩, ⟨h3.os, h3.tape, h3.output, h3.size, fun k hk hne => h3.block k hk (fun e => hne (by rw [e]; rfl))⟩⟩
/-- A slice of structs that came in; of an empty one nothing is asked. -/
def ArgH (w : World) (a : Option Addr) (n : Nat) (F0 : Nat → Int) (F1 : Nat → Int) (F2 : Nat → Int) (F3 : Nat → Int) : Prop := n = 0 ∨ ∃ b off, a = some ⟨b, off, none⟩ ∧ b < w.heap.size ∧ ∀ i, i < n → w.cell? ⟨b, off + i * 4, none⟩ = some (.int .i64 (F0 i)) ∧ w.cell? ⟨b, off + i * 4 + 1, none⟩ = some (.int .i64 (F1 i)) ∧ w.cell? ⟨b, off + i * 4 + 2, none⟩ = some (.int .i64 (F2 i)) ∧ w.cell? ⟨b, off + i * 4 + 3, none⟩ = some (.int .i64 (F3 i))
theorem ArgH.next {w w' : World} {a : Option Addr} {n : Nat} {F0 : Nat → Int} {F1 : Nat → Int} {F2 : Nat → Int} {F3 : Nat → Int} (h : ArgH w a n F0 F1 F2 F3) (hb : Below w.heap.size w w') : ArgH w' a n F0 F1 F2 F3 := by
  rcases h with h | ⟨b, off, ha, hl, hc⟩
  · exact Or.inl h
  · exact Or.inr ⟨b, off, ha, by have := hb.size; omega, fun i hi => ⟨(hb.cell (p := ⟨b, off + i * 4, none⟩) hl).trans (hc i hi).1, (hb.cell (p := ⟨b, off + i * 4 + 1, none⟩) hl).trans (hc i hi).2.1, (hb.cell (p := ⟨b, off + i * 4 + 2, none⟩) hl).trans (hc i hi).2.2.1, (hb.cell (p := ⟨b, off + i * 4 + 3, none⟩) hl).trans (hc i hi).2.2.2⟩⟩
set_option maxRecDepth 100000 in
set_option maxHeartbeats 1000000 in
theorem toOneH (x0 : Int) (x1 : Int) (x2 : Int) (x3 : Int) (w : World) : Calls Try.prog 12 #[.agg #[.int .i64 x0, .int .i64 x1, .int .i64 x2, .int .i64 x3]] w fun r w' => r = .returned (.agg #[.int .i64 x0, .int .i64 x1, .int .i64 x2, .int .i64 x3]) ∧ Below w.heap.size w w' := by
  go_enter Try.func12, Try.ntmps12
  go_wp2
  exact bodyPost_ret (v := .agg #[.int .i64 x0, .int .i64 x1, .int .i64 x2, .int .i64 x3]) (by simp [results, Try.results12, go_sem]) rfl ⟨rfl, by repeat (first | (with_reducible refine Below.setCell ?_ (by first | omega | (simp; try omega)) _) | (with_reducible refine Below.alloc ?_ (by first | omega | (simp; try omega)) _) | (with_reducible exact Below.refl _ _))⟩
theorem madeH {w : World} {B n t : Nat} {w' : World} (h : w'.ownsRow B t 4 (.slice (some ⟨w.heap.size, 0, none⟩) n n) n (madeCells #[.int .i64 0, .int .i64 0, .int .i64 0, .int .i64 0] (n * 4)).toList) : RowH w' w.heap.size n (fun _ => 0) (fun _ => 0) (fun _ => 0) (fun _ => 0) := by
  refine ⟨fun i hi => ?_, fun i hi => ?_, fun i hi => ?_, fun i hi => ?_, fun i => h.frozenAt i, (h.lt _ rfl).2⟩
  · rw [h.cellAt (i * 4) (by omega)]
    have e : (i * 4) % 4 = 0 := by omega
    simp [madeCells, show i * 4 < n * 4 by omega, e]
  · rw [h.cellAt (i * 4 + 1) (by omega)]
    have e : (i * 4 + 1) % 4 = 1 := by omega
    simp [madeCells, show i * 4 + 1 < n * 4 by omega, e]
  · rw [h.cellAt (i * 4 + 2) (by omega)]
    have e : (i * 4 + 2) % 4 = 2 := by omega
    simp [madeCells, show i * 4 + 2 < n * 4 by omega, e]
  · rw [h.cellAt (i * 4 + 3) (by omega)]
    have e : (i * 4 + 3) % 4 = 3 := by omega
    simp [madeCells, show i * 4 + 3 < n * 4 by omega, e]
theorem infoH : (Try.prog.info? 25).map (fun i => (i.zero, i.size, i.bytes)) = some (some (.agg #[.int .i64 0, .int .i64 0, .int .i64 0, .int .i64 0]), 4, 32) := by kernel_rfl
set_option maxRecDepth 100000 in
set_option maxHeartbeats 2000000 in
theorem toRowH (n b off cap : Nat) (F0 : Nat → Int) (F1 : Nat → Int) (F2 : Nat → Int) (F3 : Nat → Int) (w : World) (hn : n ≤ 1048576) (hb : b < w.heap.size) (hc : ∀ i, i < n → w.cell? ⟨b, off + i * 4, none⟩ = some (.int .i64 (F0 i)) ∧ w.cell? ⟨b, off + i * 4 + 1, none⟩ = some (.int .i64 (F1 i)) ∧ w.cell? ⟨b, off + i * 4 + 2, none⟩ = some (.int .i64 (F2 i)) ∧ w.cell? ⟨b, off + i * 4 + 3, none⟩ = some (.int .i64 (F3 i))) :
    Calls Try.prog 30 #[.slice (some ⟨b, off, none⟩) n cap] w fun r w' => r = .returned (.slice (some ⟨w.heap.size, 0, none⟩) n n) ∧ RowH w' w.heap.size n F0 F1 F2 F3 ∧ Below w.heap.size w w' := by
  obtain ⟨i0, hi, hz0, hz1, hz2⟩ := info_parts infoH
  go_enter Try.func30, Try.ntmps30
  go_wp2_with (at_make; refine wpList_make_full _ rfl _ _ 51 rfl w.heap.size 25 i0 (.agg #[.int .i64 0, .int .i64 0, .int .i64 0, .int .i64 0]) 4 Try.underlying51 hi hz0 hz1 _ _ _ _ n rfl rfl (by first | rfl | omega) (by first | rfl | omega) (by rw [hz2]; omega) (by unfold maxLen; omega) (Nat.le_refl _) ?_; intro w1 hown hgrow)
  have O1 : RowH w1 w.heap.size n (fun _ => 0) (fun _ => 0) (fun _ => 0) (fun _ => 0) := madeH hown
  have B1 : Below w.heap.size w w1 := (Below.refl _ _).grown hgrow (Nat.le_refl _) (by simp)
  clear hown hgrow hi hz0 hz1 hz2
  go_loopw [4] (fun i wr => ∃ k : Nat, k ≤ n ∧ i = .int .i64 k ∧ RowH wr w.heap.size n (fun j => if j < k then F0 j else 0) (fun j => if j < k then F1 j else 0) (fun j => if j < k then F2 j else 0) (fun j => if j < k then F3 j else 0) ∧ Below w.heap.size w wr) (fun i _ => n - (intOf i).toNat)
  case atStart => exact ⟨0, by omega, rfl, O1.mono (Nat.le_refl _) (fun j _ => by simp) (fun j _ => by simp) (fun j _ => by simp) (fun j _ => by simp), B1⟩
  case round =>
    obtain ⟨k, hk, rfl, OK, BK⟩ := hrel
    by_cases hkn : k < n
    · have i1 : (k : Int) < (n : Int) := by omega
      have i0 : (0 : Int) ≤ (k : Int) := by omega
      have c0 : wr.cell? ⟨b, off + k * 4, none⟩ = some (.int .i64 (F0 k)) := (BK.cell (p := ⟨b, off + k * 4, none⟩) hb).trans (hc k hkn).1
      have c1 : wr.cell? ⟨b, off + k * 4 + 1, none⟩ = some (.int .i64 (F1 k)) := (BK.cell (p := ⟨b, off + k * 4 + 1, none⟩) hb).trans (hc k hkn).2.1
      have c2 : wr.cell? ⟨b, off + k * 4 + 2, none⟩ = some (.int .i64 (F2 k)) := (BK.cell (p := ⟨b, off + k * 4 + 2, none⟩) hb).trans (hc k hkn).2.2.1
      have c3 : wr.cell? ⟨b, off + k * 4 + 3, none⟩ = some (.int .i64 (F3 k)) := (BK.cell (p := ⟨b, off + k * 4 + 3, none⟩) hb).trans (hc k hkn).2.2.2
      go_wp2_with (go_at_call 12; refine (toOneH (F0 k) (F1 k) (F2 k) (F3 k) _).mono ?_; rintro e w2 ⟨rfl, B2⟩; (have O2 := OK.next B2); (have f0 := O2.free (k * 4)); (have g0 : w2.cell? ⟨w.heap.size, k * 4, none⟩ = some (.int .i64 0) := by have := O2.c0 k hkn; simpa using this); (have f1 := O2.free (k * 4 + 1)); (have g1 : w2.cell? ⟨w.heap.size, k * 4 + 1, none⟩ = some (.int .i64 0) := by have := O2.c1 k hkn; simpa using this); (have f2 := O2.free (k * 4 + 2)); (have g2 : w2.cell? ⟨w.heap.size, k * 4 + 2, none⟩ = some (.int .i64 0) := by have := O2.c2 k hkn; simpa using this); (have f3 := O2.free (k * 4 + 3)); (have g3 : w2.cell? ⟨w.heap.size, k * 4 + 3, none⟩ = some (.int .i64 0) := by have := O2.c3 k hkn; simpa using this))
      go_roundw
      case rel =>
        have up : ∀ {α : Type} (f : Nat → α) (z : α) (j : Nat), (if j < k + 1 then f j else z) = if j = k then f k else if j < k then f j else z := by
          intro α f z j
          by_cases e1 : j = k
          · subst e1; simp
          · rw [if_neg e1]; by_cases e2 : j < k
            · rw [if_pos e2, if_pos (by omega)]
            · rw [if_neg e2, if_neg (by omega)]
        have Bs := BK.trans (B2.mono BK.size)
        exact ⟨k + 1, by omega, by go_num, ((((O2.set0 k (F0 k)).set1 k (F1 k)).set2 k (F2 k)).set3 k (F3 k)).mono (Nat.le_refl _) (fun j _ => up F0 0 j) (fun j _ => up F1 0 j) (fun j _ => up F2 0 j) (fun j _ => up F3 0 j), ((((Bs.setCell (Nat.le_refl _) _).setCell (Nat.le_refl _) _).setCell (Nat.le_refl _) _).setCell (Nat.le_refl _) _)⟩
      case measure => simp [intOf]; omega
    · have hkk : k = n := by omega
      subst hkk
      go_wp2
      go_ret
      exact ⟨rfl, OK.mono (Nat.le_refl _) (fun j hj => by simp [hj]) (fun j hj => by simp [hj]) (fun j hj => by simp [hj]) (fun j hj => by simp [hj]), BK⟩
set_option maxRecDepth 100000 in
theorem toRowH0 (a : Option Addr) (cap : Nat) (F0 : Nat → Int) (F1 : Nat → Int) (F2 : Nat → Int) (F3 : Nat → Int) (w : World) :
    Calls Try.prog 30 #[.slice a 0 cap] w fun r w' => r = .returned (.slice (some ⟨w.heap.size, 0, none⟩) 0 0) ∧ RowH w' w.heap.size 0 F0 F1 F2 F3 ∧ Below w.heap.size w w' := by
  obtain ⟨i0, hi, hz0, hz1, hz2⟩ := info_parts infoH
  go_enter Try.func30, Try.ntmps30
  go_wp2_with (at_make; refine wpList_make_full _ rfl _ _ 51 rfl w.heap.size 25 i0 (.agg #[.int .i64 0, .int .i64 0, .int .i64 0, .int .i64 0]) 4 Try.underlying51 hi hz0 hz1 _ _ _ _ 0 rfl rfl (by first | rfl | omega) (by first | rfl | omega) (by rw [hz2]; omega) (by unfold maxLen; omega) (Nat.le_refl _) ?_; intro w1 hown hgrow)
  have O1 : RowH w1 w.heap.size 0 (fun _ => 0) (fun _ => 0) (fun _ => 0) (fun _ => 0) := madeH hown
  have B1 : Below w.heap.size w w1 := (Below.refl _ _).grown hgrow (Nat.le_refl _) (by simp)
  clear hown hgrow hi hz0 hz1 hz2
  refine wp_loop_rounds 1 ?_
  rw [rounds_succ]
  go_wp2
  go_ret
  exact ⟨rfl, O1.mono (Nat.le_refl _) (fun j hj => by omega) (fun j hj => by omega) (fun j hj => by omega) (fun j hj => by omega), B1⟩
theorem argToH {w : World} {a : Option Addr} {n : Nat} {F0 : Nat → Int} {F1 : Nat → Int} {F2 : Nat → Int} {F3 : Nat → Int} (h : ArgH w a n F0 F1 F2 F3) (cap : Nat) (hn : n ≤ 1048576) :
    Calls Try.prog 30 #[.slice a n cap] w fun r w' => r = .returned (.slice (some ⟨w.heap.size, 0, none⟩) n n) ∧ RowH w' w.heap.size n F0 F1 F2 F3 ∧ Below w.heap.size w w' := by
  rcases h with rfl | ⟨b, off, rfl, hl, hc⟩
  · exact toRowH0 a cap F0 F1 F2 F3 w
  · exact toRowH n b off cap F0 F1 F2 F3 w hn hl hc
theorem viewH {H : Type} {enc : TypeId × Value → H} {P : Program} {W : World} {base : Nat} {t e : TypeId} {f0 f1 f2 f3 : Field} {v : Value} {d : DataW H} {p : List MemPlace} (ht : P.underlying t = some (.slice e)) (he : P.underlying e = some (.struct #[f0, f1, f2, f3])) (ce : P.cellsOf e = 4)
    (o0 : f0.offset = 0) (o1 : f1.offset = 1) (o2 : f2.offset = 2) (o3 : f3.offset = 3) (c0 : P.cellsOf f0.type = 1) (c1 : P.cellsOf f1.type = 1) (c2 : P.cellsOf f2.type = 1) (c3 : P.cellsOf f3.type = 1) (u0 : P.underlying f0.type = some (.int .i64)) (u1 : P.underlying f1.type = some (.int .i64)) (u2 : P.underlying f2.type = some (.int .i64)) (u3 : P.underlying f3.type = some (.int .i64))
    (hok : Value.okWide P W .any base t v) (h : DataW.Trod enc P W 0 (fun _ => true) true t v d p) (hlt : ∀ x ∈ p, x.block < W.heap.size) :
    ∃ (a : Option Addr) (len cap : Nat) (F0 : Nat → Int) (F1 : Nat → Int) (F2 : Nat → Int) (F3 : Nat → Int), v = .slice a len cap ∧ len ≤ 9223372036854775807 ∧ ArgH W a len F0 F1 F2 F3 ∧ (∀ i, (Lit.int .i64 (F0 i)).wf = true) ∧ (∀ i, (Lit.int .i64 (F1 i)).wf = true) ∧ (∀ i, (Lit.int .i64 (F2 i)).wf = true) ∧ (∀ i, (Lit.int .i64 (F3 i)).wf = true) := by
  obtain ⟨a0, len, cap, rfl⟩ := okWide_slice ht hok
  obtain ⟨fuel, hf⟩ := h
  rcases Go.Deep.open_slice ht hf with ⟨hcs, hx⟩ | ⟨a, len', cap', m, n, D, Pl, hcs, _, hl, hm, hmm, hx, hel⟩
  · simp [Value.cells] at hcs
    obtain ⟨rfl, rfl, rfl⟩ := hcs
    exact ⟨_, 0, 0, fun _ => 0, fun _ => 0, fun _ => 0, fun _ => 0, rfl, by omega, Or.inl rfl, fun _ => rfl, fun _ => rfl, fun _ => rfl, fun _ => rfl⟩
  · simp [Value.cells] at hcs
    obtain ⟨rfl, rfl, rfl⟩ := hcs
    simp only [Prod.mk.injEq] at hx
    obtain ⟨rfl, rfl⟩ := hx
    simp only [if_true] at hmm
    have each : ∀ i, i < len → ∃ q : Int × Int × Int × Int, W.cell? (a.add (i * 4)) = some (.int .i64 q.1) ∧ W.cell? (a.add (i * 4 + 1)) = some (.int .i64 q.2.1) ∧ W.cell? (a.add (i * 4 + 2)) = some (.int .i64 q.2.2.1) ∧ W.cell? (a.add (i * 4 + 3)) = some (.int .i64 q.2.2.2) ∧ (Lit.int .i64 (q.1)).wf = true ∧ (Lit.int .i64 (q.2.1)).wf = true ∧ (Lit.int .i64 (q.2.2.1)).wf = true ∧ (Lit.int .i64 (q.2.2.2)).wf = true := by
      intro i hi
      obtain ⟨cs', h1, h2⟩ := hel i (by omega)
      rw [ce] at h1
      obtain ⟨_, hlen, hcell⟩ := World.cells?_some h1
      obtain ⟨xs, k, hk, hxy, _, hxl, hf⟩ := DataW.trod_struct he h2
      match xs, hxl, cs', hlen with
      | [y0, y1, y2, y3], _, [v0, v1, v2, v3], _ =>
        have g0 := hf 0 f0 rfl
        have g1 := hf 1 f1 rfl
        have g2 := hf 2 f2 rfl
        have g3 := hf 3 f3 rfl
        simp [o0, o1, o2, o3, c0, c1, c2, c3] at g0 g1 g2 g3
        have e0 := hcell 0 (by omega)
        have e1 := hcell 1 (by omega)
        have e2 := hcell 2 (by omega)
        have e3 := hcell 3 (by omega)
        rw [Go.Deep.add_add] at e0 e1 e2 e3
        obtain ⟨n0, hv0, _, hw0⟩ := DataW.trod_int u0 g0
        obtain ⟨n1, hv1, _, hw1⟩ := DataW.trod_int u1 g1
        obtain ⟨n2, hv2, _, hw2⟩ := DataW.trod_int u2 g2
        obtain ⟨n3, hv3, _, hw3⟩ := DataW.trod_int u3 g3
        simp only [List.cons.injEq, and_true] at hv0 hv1 hv2 hv3
        subst hv0 hv1 hv2 hv3
        exact ⟨(n0, n1, n2, n3), by simpa using e0, by simpa using e1, by simpa using e2, by simpa using e3, hw0, hw1, hw2, hw3⟩
    by_cases hl0 : len = 0
    · exact ⟨_, len, cap, fun _ => 0, fun _ => 0, fun _ => 0, fun _ => 0, rfl, by unfold maxLen at hm; omega, Or.inl hl0, fun _ => rfl, fun _ => rfl, fun _ => rfl, fun _ => rfl⟩
    · obtain ⟨q, hq⟩ := Go.Deep.choose_lt each
      obtain ⟨b, off, spot⟩ := a
      have hspot : spot = none := by simpa [Addr.add] using World.cell?_spot (hq 0 (by omega)).1
      subst hspot
      have hbW : b < W.heap.size := hlt (.cell b off) (List.mem_append.2 (Or.inl (MemPlace.mem_row.2 ⟨0, by rw [ce]; omega, by simp⟩)))
      refine ⟨_, len, cap, fun i => if i < len then (q i).1 else 0, fun i => if i < len then (q i).2.1 else 0, fun i => if i < len then (q i).2.2.1 else 0, fun i => if i < len then (q i).2.2.2 else 0, rfl, by unfold maxLen at hm; omega, Or.inr ⟨b, off, rfl, hbW, fun j hj => ?_⟩, fun i => ?_, fun i => ?_, fun i => ?_, fun i => ?_⟩
      · obtain ⟨h0, h1, h2, h3, _⟩ := hq j hj
        rw [add_plain] at h0 h1 h2 h3
        simp only [if_pos hj]
        exact ⟨h0, h1, h2, h3⟩
      · by_cases hj : i < len
        · simp only [if_pos hj]; exact (hq i hj).2.2.2.2.1
        · simp only [if_neg hj]; first | rfl | decide
      · by_cases hj : i < len
        · simp only [if_pos hj]; exact (hq i hj).2.2.2.2.2.1
        · simp only [if_neg hj]; first | rfl | decide
      · by_cases hj : i < len
        · simp only [if_pos hj]; exact (hq i hj).2.2.2.2.2.2.1
        · simp only [if_neg hj]; first | rfl | decide
      · by_cases hj : i < len
        · simp only [if_pos hj]; exact (hq i hj).2.2.2.2.2.2.2
        · simp only [if_neg hj]; first | rfl | decide
def dC : Col := ⟨0, 0, 0, 0⟩
/-- A row of colors, wherever it lies. -/
def KRow (w : World) (v : Value) (L : List Col) : Prop := ∃ ad c, v = .slice ad L.length c ∧ ∀ i, i < L.length → ∃ g o, ad = some ⟨g, o, none⟩ ∧ w.cell? ⟨g, o + i * 4, none⟩ = some (.int .i64 (L.getD i dC).r) ∧ w.cell? ⟨g, o + i * 4 + 1, none⟩ = some (.int .i64 (L.getD i dC).g) ∧ w.cell? ⟨g, o + i * 4 + 2, none⟩ = some (.int .i64 (L.getD i dC).b) ∧ w.cell? ⟨g, o + i * 4 + 3, none⟩ = some (.int .i64 (L.getD i dC).a)
theorem KRow.next {w w' : World} {v : Value} {L : List Col} (h : KRow w v L) (b : Below w.heap.size w w') : KRow w' v L := by
  obtain ⟨ad, c, h1, h2⟩ := h
  refine ⟨ad, c, h1, fun i hi => ?_⟩
  obtain ⟨g, o, h3, h4, h5, h6, h7⟩ := h2 i hi
  exact ⟨g, o, h3, cell_nx h4 b, cell_nx h5 b, cell_nx h6 b, cell_nx h7 b⟩
theorem KRow.arg {w : World} {a : Option Addr} {n c : Nat} {L : List Col} (h : KRow w (.slice a n c) L) : ArgH w a n (fun i => (L.getD i dC).r) (fun i => (L.getD i dC).g) (fun i => (L.getD i dC).b) (fun i => (L.getD i dC).a) := by
  obtain ⟨ad, c', h1, h2⟩ := h
  injection h1 with h1 h3 h4
  subst h1; subst h3
  by_cases e : L.length = 0
  · exact Or.inl e
  · obtain ⟨g, o, rfl, hc, _⟩ := h2 0 (by omega)
    refine Or.inr ⟨g, o, rfl, World.block_lt_of_cell? _ _ hc, fun i hi => ?_⟩
    obtain ⟨g', o', e1, e2⟩ := h2 i hi
    injection e1 with e1
    injection e1 with e1 e3
    subst e1; subst e3
    exact e2
theorem RowH.krow {w : World} {g n cp : Nat} {L : List Col} (R : RowH w g n (fun i => (L.getD i dC).r) (fun i => (L.getD i dC).g) (fun i => (L.getD i dC).b) (fun i => (L.getD i dC).a)) (hn : L.length = n) : KRow w (.slice (some ⟨g, 0, none⟩) n cp) L := by
  subst hn
  refine ⟨_, _, rfl, fun i hi => ⟨g, 0, rfl, ?_, ?_, ?_, ?_⟩⟩
  · rw [Nat.zero_add]; exact R.c0 i hi
  · rw [Nat.zero_add]; exact R.c1 i hi
  · rw [Nat.zero_add]; exact R.c2 i hi
  · rw [Nat.zero_add]; exact R.c3 i hi
theorem RowH.but {w w' : World} {o p n : Nat} {F0 F1 F2 F3 : Nat → Int} (h : RowH w o n F0 F1 F2 F3) (b : Only p w w') (hne : o ≠ p) : RowH w' o n F0 F1 F2 F3 := h.grown (row := some p) ⟨b.os, b.tape, b.output, b.size, fun k hk hn => b.block k hk (fun e => hn (by rw [e]))⟩ (by simpa using hne)
def clF (F : Nat → Col) : Nat → List Col
  | 0 => []
  | k + 1 => clF F k ++ [F k]
theorem clF_len (F : Nat → Col) : ∀ k, (clF F k).length = k
  | 0 => rfl
  | k + 1 => by simp [clF, clF_len F k]
theorem clF_at (F : Nat → Col) : ∀ k i, i < k → (clF F k).getD i dC = F i
  | k + 1, i, hi => by
    by_cases e : i = k
    · subst e
      simp [clF, List.getD, clF_len]
    · have h := clF_at F k i (by omega)
      rw [← h]
      simp [clF, List.getD, List.getElem?_append_left (show i < (clF F k).length by rw [clF_len]; omega)]
theorem szCol (a : Option Addr) (l c : Nat) (z : Int) (w : World) (hl : l ≤ 9223372036854775807) (z0 : 0 ≤ z) (z1 : z ≤ 1048576) : Calls Try.prog 28 #[.slice a l c, .int .i64 z] w fun r w' => r = .returned (.int .i64 (if z < (l : Int) then -1 else z - l)) ∧ w' = w := by
  have e0 : IntKind.i64.wrap (z - (l : Int)) = z - (l : Int) := (IntKind.wrap_i64 _).trans (by omega)
  by_cases h : z < (l : Int)
  · have h1 : z - (l : Int) < 0 := by omega
    rw [if_pos h]
    go_enter Try.func28, Try.ntmps28
    go_wp2
    go_ret
    exact ⟨rfl, rfl⟩
  · have h1 : ¬ z - (l : Int) < 0 := by omega
    rw [if_neg h]
    go_enter Try.func28, Try.ntmps28
    go_wp2
    go_ret
    exact ⟨rfl, rfl⟩
def kgB (c : Col) : Bool := gdC c.r c.g c.b c.a
/-- A place tells whether there is one. -/
def IxB (z : Int) (b : Bool) : Prop := decide (0 ≤ z) = b
set_option maxRecDepth 100000 in
set_option maxHeartbeats 2000000 in
theorem gcoi (l : List Col) (v : Value) (p : Col → Bool) (w : World) (Q : KRow w v l) (hn : l.length ≤ 1048576)
    (hp : ∀ x, x ∈ l → ∀ w', Below w.heap.size w w' → Calls Try.prog 78 #[colV x] w' fun e w'' => e = .returned (.bool (p x)) ∧ Below w'.heap.size w' w'') : Calls Try.prog 87 #[v, .func (.func 78) #[] #[]] w fun e w' => (∃ z, e = .returned (.int .i64 z) ∧ IxB z (l.any p)) ∧ Below w.heap.size w w' := by
  obtain ⟨oa, oc, rfl, hoa⟩ := Q
  obtain ⟨B, hB⟩ : ∃ B, l.any p = B := ⟨_, rfl⟩
  have HT : Hid (∀ i, i < l.length → p (l.getD i dC) = true → B = true) := fun i hi h => by rw [← hB, List.any_eq_true]; exact ⟨_, by simp [List.getD, hi], h⟩
  have HF : Hid ((∀ i, i < l.length → p (l.getD i dC) = false) → B = false) := fun h => by
    rw [← hB, List.any_eq_false]
    intro x hx
    obtain ⟨i, hi, rfl⟩ := List.getElem_of_mem hx
    have := h i hi
    rw [show l.getD i dC = l[i] by simp [List.getD, hi]] at this
    rw [this]
    exact Bool.false_ne_true
  rw [hB]
  have HOA := Hid.mk hoa
  have HP := Hid.mk hp
  have HIN : Hid (∀ k, k < l.length → l.getD k dC ∈ l) := fun k hk => by simp [List.getD, hk]
  clear hB hoa hp
  obtain ⟨n, hn'⟩ : ∃ n, l.length = n := ⟨_, rfl⟩
  rw [hn'] at HOA HF HT hn HIN ⊢
  clear hn'
  go_enter Try.func87, Try.ntmps87
  go_wp2
  go_loopw [8] (fun i wr => ∃ k : Nat, k ≤ n ∧ i = .int .i64 k ∧ Hid (∀ i, i < k → p (l.getD i dC) = false) ∧ Below w.heap.size w wr) (fun i _ => n - (intOf i).toNat)
  case atStart => exact ⟨0, Nat.zero_le _, rfl, fun i hi => by omega, Below.refl _ _⟩
  case round =>
    obtain ⟨k, hk, rfl, HK, HB⟩ := hrel
    by_cases hkn : k < n
    · have i1 : (k : Int) < (n : Int) := by omega
      have i0 : (0 : Int) ≤ (k : Int) := by omega
      obtain ⟨g, o, rfl, h0, h1, h2, h3⟩ := HOA.out k hkn
      have hc0 := cell_nx h0 HB
      have hc1 := cell_nx h1 HB
      have hc2 := cell_nx h2 HB
      have hc3 := cell_nx h3 HB
      have hp := HP.out (l.getD k dC) (HIN.out k hkn) wr HB
      have HN : Hid (p (l.getD k dC) = false → ∀ i, i < k + 1 → p (l.getD i dC) = false) := fun h i hi => by
        by_cases e : i = k
        · subst e; exact h
        · exact HK.out i (by omega)
      have HG := Hid.mk (HT.out k hkn)
      clear h0 h1 h2 h3
      generalize l.getD k dC = x at hc0 hc1 hc2 hc3 HN HG hp
      unfold colV at hp
      cases hb : p x
      · rw [hb] at hp
        have HN2 := Hid.mk (HN.out hb)
        clear HN HG HK hb
        go_wp2_with (go_at_call 78; refine hp.mono ?_; rintro e w2 ⟨rfl, B2⟩)
        go_roundw
        case rel => exact ⟨k + 1, by omega, by go_num, HN2, HB.trans (B2.mono HB.size)⟩
        case measure => simp [intOf]; omega
      · rw [hb] at hp
        have HG2 := Hid.mk (HG.out hb)
        clear HN HG HK hb
        go_wp2_with (go_at_call 78; refine hp.mono ?_; rintro e w2 ⟨rfl, B2⟩)
        go_ret
        exact ⟨⟨_, rfl, by unfold IxB; rw [HG2.out]; exact decide_eq_true i0⟩, HB.trans (B2.mono HB.size)⟩
    · obtain rfl : n = k := by omega
      have i1 : ¬ (n : Int) < (n : Int) := by omega
      have HT2 := Hid.mk (HF.out HK.out)
      go_wp2
      go_ret
      exact ⟨⟨-1, rfl, by unfold IxB; rw [HT2.out]; rfl⟩, HB⟩
set_option maxRecDepth 100000 in
theorem gcoc (l : List Col) (v : Value) (p : Col → Bool) (w : World) (Q : KRow w v l) (hn : l.length ≤ 1048576)
    (hp : ∀ x, x ∈ l → ∀ w', Below w.heap.size w w' → Calls Try.prog 78 #[colV x] w' fun e w'' => e = .returned (.bool (p x)) ∧ Below w'.heap.size w' w'') : Calls Try.prog 77 #[v, .func (.func 78) #[] #[]] w fun e w' => e = .returned (.bool (l.any p)) ∧ Below w.heap.size w w' := by
  have h := gcoi l v  p w Q hn hp
  obtain ⟨oa, oc, rfl, _⟩ := Q
  generalize l.any p = B at h ⊢
  clear hp
  go_enter Try.func77, Try.ntmps77
  go_wp2_with (go_at_call 87; refine h.mono ?_; rintro e w2 ⟨⟨z, rfl, hz⟩, B2⟩; unfold IxB at hz)
  go_ret
  exact ⟨rfl, B2⟩
theorem gco1 (c : Col) (w : World) : Calls Try.prog 78 #[colV c] w fun e w' => e = .returned (.bool (!kgB c)) ∧ Below w.heap.size w w' := by
  have HG : Hid (∀ w, Calls Try.prog 13 #[.agg #[.int .i64 c.r, .int .i64 c.g, .int .i64 c.b, .int .i64 c.a]] w fun e w' => e = .returned (.bool (kgB c)) ∧ Below w.heap.size w w') := fun w => good13 c.r c.g c.b c.a w
  have HB : Hid (Below w.heap.size w (w.alloc (.cells #[.int .i64 c.r, .int .i64 c.g, .int .i64 c.b, .int .i64 c.a] 25))) := alloc_b
  generalize kgB c = GB at HG ⊢
  unfold colV
  go_enter Try.func78, Try.ntmps78
  go_wp2_with (go_at_call 13; refine (HG.out _).mono ?_; rintro e w2 ⟨rfl, B2⟩)
  go_ret
  exact ⟨rfl, HB.out.trans (B2.mono HB.out.size)⟩
theorem any_not {α : Type} (p : α → Bool) (L : List α) : (!L.any (fun x => !p x)) = L.all p := by
  induction L with
  | nil => rfl
  | cons a l ih => rw [List.any_cons, List.all_cons, Bool.not_or, ih, Bool.not_not]
theorem pgcs (L : List Col) (v : Value) (w : World) (Q : KRow w v L) (hn : L.length ≤ 1048576) : Calls Try.prog 56 #[v] w fun e w' => e = .returned (.bool (L.all kgB)) ∧ Below w.heap.size w w' := by
  have h := gcoc L v (fun x => !kgB x) w Q hn (fun x _ w2 _ => gco1 x w2)
  obtain ⟨ad, c, rfl, _⟩ := Q
  rw [← any_not]
  generalize L.any (fun x => !kgB x) = B at h ⊢
  go_enter Try.func56, Try.ntmps56
  go_wp2_with (go_at_call 77; refine h.mono ?_; rintro e w2 ⟨rfl, B2⟩)
  go_ret
  exact ⟨rfl, B2⟩
end Go.Proofs.Ythkngcdfnemhaaa
