/- Rows of spots (a text and three whole numbers each): memory, comparisons (eqSpotS), the law's marks (markSpotS, heldSpotS; markFieldS), and of a Layout (eqLayout, markLayout, heldLayout); conditions: the row is one that a call made, at most 12 long where marked. -/
import Derived.Test.YteakeaclpcgopaaFlds
import Derived.Laws.AppendOwn
import Derived.Deep.AppendLies
namespace Go.Proofs.Yteakeaclpcgopaa
open Go.ChangeShapes Go.WideShapes Go.ChangeAt Go.RowKit
open Tk (Only mtext markText15 below_drewN)
set_option linter.unusedVariables false
theorem upTo {α : Type} (f g : Nat → α) (k j : Nat) : (if j < k + 1 then f j else g j) = if j = k then f k else if j < k then f j else g j := by
  by_cases e1 : j = k
  · subst e1; simp
  · rw [if_neg e1]
    by_cases e2 : j < k
    · rw [if_pos e2, if_pos (by omega)]
    · rw [if_neg e2, if_neg (by omega)]
theorem grown_below {w w' : World} (hb : Below w.heap.size w w') (row : Option Nat) : w.grownBy w' row := ⟨hb.os, hb.tape, hb.output, hb.size, fun k hk _ => hb.block k hk⟩
theorem grown_trans {a b c : World} {row : Option Nat} (h : a.grownBy b row) (k : b.grownBy c row) : a.grownBy c row := ⟨k.os.trans h.os, k.tape.trans h.tape, k.output.trans h.output, Nat.le_trans h.size k.size, fun i hi hn => (k.block i (Nat.lt_of_lt_of_le hi h.size) hn).trans (h.block i hi hn)⟩
theorem alloc_b {w : World} {o : Obj} : Below w.heap.size w (w.alloc o) := (Below.refl _ _).alloc (Nat.le_refl _) _
/-- n structs of block o, from its head on; each may be written. -/
structure RowS (w : World) (o n : Nat) (F0 : Nat → ByteArray) (F1 : Nat → Int) (F2 : Nat → Int) (F3 : Nat → Int) : Prop where
  c0 : ∀ i, i < n → w.cell? ⟨o, i * 4, none⟩ = some (.string (F0 i))
  c1 : ∀ i, i < n → w.cell? ⟨o, i * 4 + 1, none⟩ = some (.int .i64 (F1 i))
  c2 : ∀ i, i < n → w.cell? ⟨o, i * 4 + 2, none⟩ = some (.int .i64 (F2 i))
  c3 : ∀ i, i < n → w.cell? ⟨o, i * 4 + 3, none⟩ = some (.int .i64 (F3 i))
  free : ∀ i, w.frozen? ⟨o, i, none⟩ = false
  hi : o < w.heap.size
theorem RowS.mono {w : World} {o n m : Nat} {F0 : Nat → ByteArray} {F1 : Nat → Int} {F2 : Nat → Int} {F3 : Nat → Int} {G0 : Nat → ByteArray} {G1 : Nat → Int} {G2 : Nat → Int} {G3 : Nat → Int} (h : RowS w o n F0 F1 F2 F3) (hm : m ≤ n) (h0 : ∀ i, i < m → G0 i = F0 i) (h1 : ∀ i, i < m → G1 i = F1 i) (h2 : ∀ i, i < m → G2 i = F2 i) (h3 : ∀ i, i < m → G3 i = F3 i) : RowS w o m G0 G1 G2 G3 :=
  ⟨fun i hi => by rw [h0 i hi]; exact h.c0 i (by omega), fun i hi => by rw [h1 i hi]; exact h.c1 i (by omega), fun i hi => by rw [h2 i hi]; exact h.c2 i (by omega), fun i hi => by rw [h3 i hi]; exact h.c3 i (by omega), h.free, h.hi⟩
theorem RowS.next {w w' : World} {o n : Nat} {F0 : Nat → ByteArray} {F1 : Nat → Int} {F2 : Nat → Int} {F3 : Nat → Int} (h : RowS w o n F0 F1 F2 F3) (hb : Below w.heap.size w w') : RowS w' o n F0 F1 F2 F3 := by
  have z := hb.size
  have zh := h.hi
  exact ⟨fun i hi => (hb.cell (p := ⟨o, i * 4, none⟩) h.hi).trans (h.c0 i hi), fun i hi => (hb.cell (p := ⟨o, i * 4 + 1, none⟩) h.hi).trans (h.c1 i hi), fun i hi => (hb.cell (p := ⟨o, i * 4 + 2, none⟩) h.hi).trans (h.c2 i hi), fun i hi => (hb.cell (p := ⟨o, i * 4 + 3, none⟩) h.hi).trans (h.c3 i hi), fun i => (hb.frozen (p := ⟨o, i, none⟩) h.hi).trans (h.free i), by omega⟩
theorem RowS.drewN {w : World} {o n : Nat} {F0 : Nat → ByteArray} {F1 : Nat → Int} {F2 : Nat → Int} {F3 : Nat → Int} (h : RowS w o n F0 F1 F2 F3) (q : Nat) : RowS (w.drewN q) o n F0 F1 F2 F3 := ⟨h.c0, h.c1, h.c2, h.c3, h.free, h.hi⟩
theorem RowS.grown {w w' : World} {o n : Nat} {F0 : Nat → ByteArray} {F1 : Nat → Int} {F2 : Nat → Int} {F3 : Nat → Int} {row : Option Nat} (h : RowS w o n F0 F1 F2 F3) (hb : w.grownBy w' row) (hne : some o ≠ row) : RowS w' o n F0 F1 F2 F3 := by
  have z := hb.size
  have zh := h.hi
  have b := hb.block o zh hne
  exact ⟨fun i hi => (World.cell?_of_block (w := w) (a := ⟨o, i * 4, none⟩) b).trans (h.c0 i hi), fun i hi => (World.cell?_of_block (w := w) (a := ⟨o, i * 4 + 1, none⟩) b).trans (h.c1 i hi), fun i hi => (World.cell?_of_block (w := w) (a := ⟨o, i * 4 + 2, none⟩) b).trans (h.c2 i hi), fun i hi => (World.cell?_of_block (w := w) (a := ⟨o, i * 4 + 3, none⟩) b).trans (h.c3 i hi), fun i => (World.frozen?_of_block (w := w) (a := ⟨o, i, none⟩) b).trans (h.free i), by omega⟩
theorem RowS.set0 {w : World} {o n : Nat} {F0 : Nat → ByteArray} {F1 : Nat → Int} {F2 : Nat → Int} {F3 : Nat → Int} (h : RowS w o n F0 F1 F2 F3) (q : Nat) (a : ByteArray) : RowS (w.setCell ⟨o, q * 4, none⟩ (.string a)) o n (fun i => if i = q then a else F0 i) F1 F2 F3 := by
  refine ⟨fun i hi => ?_, fun i hi => ?_, fun i hi => ?_, fun i hi => ?_, fun i => by simp [h.free i], by simpa using h.hi⟩
  · rw [cell_put _ _ _ _ _ _ (h.c0 i hi)]
    by_cases e : i = q
    · subst e; simp
    · rw [if_neg (by omega)]; simp [e]
  · rw [cell_put _ _ _ _ _ _ (h.c1 i hi), if_neg (by omega)]
  · rw [cell_put _ _ _ _ _ _ (h.c2 i hi), if_neg (by omega)]
  · rw [cell_put _ _ _ _ _ _ (h.c3 i hi), if_neg (by omega)]
theorem RowS.set1 {w : World} {o n : Nat} {F0 : Nat → ByteArray} {F1 : Nat → Int} {F2 : Nat → Int} {F3 : Nat → Int} (h : RowS w o n F0 F1 F2 F3) (q : Nat) (a : Int) : RowS (w.setCell ⟨o, q * 4 + 1, none⟩ (.int .i64 a)) o n F0 (fun i => if i = q then a else F1 i) F2 F3 := by
  refine ⟨fun i hi => ?_, fun i hi => ?_, fun i hi => ?_, fun i hi => ?_, fun i => by simp [h.free i], by simpa using h.hi⟩
  · rw [cell_put _ _ _ _ _ _ (h.c0 i hi), if_neg (by omega)]
  · rw [cell_put _ _ _ _ _ _ (h.c1 i hi)]
    by_cases e : i = q
    · subst e; simp
    · rw [if_neg (by omega)]; simp [e]
  · rw [cell_put _ _ _ _ _ _ (h.c2 i hi), if_neg (by omega)]
  · rw [cell_put _ _ _ _ _ _ (h.c3 i hi), if_neg (by omega)]
theorem RowS.set2 {w : World} {o n : Nat} {F0 : Nat → ByteArray} {F1 : Nat → Int} {F2 : Nat → Int} {F3 : Nat → Int} (h : RowS w o n F0 F1 F2 F3) (q : Nat) (a : Int) : RowS (w.setCell ⟨o, q * 4 + 2, none⟩ (.int .i64 a)) o n F0 F1 (fun i => if i = q then a else F2 i) F3 := by
  refine ⟨fun i hi => ?_, fun i hi => ?_, fun i hi => ?_, fun i hi => ?_, fun i => by simp [h.free i], by simpa using h.hi⟩
  · rw [cell_put _ _ _ _ _ _ (h.c0 i hi), if_neg (by omega)]
  · rw [cell_put _ _ _ _ _ _ (h.c1 i hi), if_neg (by omega)]
  · rw [cell_put _ _ _ _ _ _ (h.c2 i hi)]
    by_cases e : i = q
    · subst e; simp
    · rw [if_neg (by omega)]; simp [e]
  · rw [cell_put _ _ _ _ _ _ (h.c3 i hi), if_neg (by omega)]
theorem RowS.set3 {w : World} {o n : Nat} {F0 : Nat → ByteArray} {F1 : Nat → Int} {F2 : Nat → Int} {F3 : Nat → Int} (h : RowS w o n F0 F1 F2 F3) (q : Nat) (a : Int) : RowS (w.setCell ⟨o, q * 4 + 3, none⟩ (.int .i64 a)) o n F0 F1 F2 (fun i => if i = q then a else F3 i) := by
  refine ⟨fun i hi => ?_, fun i hi => ?_, fun i hi => ?_, fun i hi => ?_, fun i => by simp [h.free i], by simpa using h.hi⟩
  · rw [cell_put _ _ _ _ _ _ (h.c0 i hi), if_neg (by omega)]
  · rw [cell_put _ _ _ _ _ _ (h.c1 i hi), if_neg (by omega)]
  · rw [cell_put _ _ _ _ _ _ (h.c2 i hi), if_neg (by omega)]
  · rw [cell_put _ _ _ _ _ _ (h.c3 i hi)]
    by_cases e : i = q
    · subst e; simp
    · rw [if_neg (by omega)]; simp [e]
/-- A slice of n structs that a call made, or none. -/
def RowSV (w : World) (v : Value) (n : Nat) (F0 : Nat → ByteArray) (F1 : Nat → Int) (F2 : Nat → Int) (F3 : Nat → Int) : Prop := (n = 0 ∧ v = .slice none 0 0) ∨ ∃ o c, v = .slice (some ⟨o, 0, none⟩) n c ∧ RowS w o n F0 F1 F2 F3
theorem RowSV.grown {w w' : World} {v : Value} {n : Nat} {F0 : Nat → ByteArray} {F1 : Nat → Int} {F2 : Nat → Int} {F3 : Nat → Int} {row : Option Nat} (h : RowSV w v n F0 F1 F2 F3) (hb : w.grownBy w' row) (hne : v.ownBlock = none ∨ v.ownBlock ≠ row) : RowSV w' v n F0 F1 F2 F3 := by
  rcases h with h | ⟨o, c, rfl, R⟩
  · exact Or.inl h
  · exact Or.inr ⟨o, c, rfl, R.grown hb (by simpa [Value.ownBlock] using hne)⟩
theorem RowSV.next {w w' : World} {v : Value} {n : Nat} {F0 : Nat → ByteArray} {F1 : Nat → Int} {F2 : Nat → Int} {F3 : Nat → Int} (h : RowSV w v n F0 F1 F2 F3) (hb : Below w.heap.size w w') : RowSV w' v n F0 F1 F2 F3 := h.grown (grown_below hb none) (by cases hv : v.ownBlock <;> simp)
theorem RowSV.is {w : World} {v : Value} {n : Nat} {F0 : Nat → ByteArray} {F1 : Nat → Int} {F2 : Nat → Int} {F3 : Nat → Int} (R : RowSV w v n F0 F1 F2 F3) : ∃ a l c, v = .slice a l c := by
  rcases R with ⟨_, rfl⟩ | ⟨o, c, rfl, _⟩
  · exact ⟨_, _, _, rfl⟩
  · exact ⟨_, _, _, rfl⟩
theorem RowSV.lt {w : World} {v : Value} {n : Nat} {F0 : Nat → ByteArray} {F1 : Nat → Int} {F2 : Nat → Int} {F3 : Nat → Int} (h : RowSV w v n F0 F1 F2 F3) : ∀ g, v.ownBlock = some g → g < w.heap.size := by
  rcases h with ⟨_, rfl⟩ | ⟨o, c, rfl, R⟩
  · intro g hg; simp [Value.ownBlock] at hg
  · intro g hg; simp [Value.ownBlock] at hg; subst hg; exact R.hi
abbrev TupS := ByteArray × Int × Int × Int
def cellsS : List TupS → List Value
  | [] => []
  | t :: r => .string (t.1) :: .int .i64 (t.2.1) :: .int .i64 (t.2.2.1) :: .int .i64 (t.2.2.2) :: cellsS r
theorem cellsS_app : ∀ (l m : List TupS), cellsS (l ++ m) = cellsS l ++ cellsS m
  | [], m => rfl
  | t :: r, m => by simp [cellsS, cellsS_app r m]
def atS0 (l : List TupS) (i : Nat) : ByteArray := (l.getD i (⟨#[]⟩, 0, 0, 0)).1
def atS1 (l : List TupS) (i : Nat) : Int := (l.getD i (⟨#[]⟩, 0, 0, 0)).2.1
def atS2 (l : List TupS) (i : Nat) : Int := (l.getD i (⟨#[]⟩, 0, 0, 0)).2.2.1
def atS3 (l : List TupS) (i : Nat) : Int := (l.getD i (⟨#[]⟩, 0, 0, 0)).2.2.2
theorem cellsS_at : ∀ (l : List TupS) (i : Nat), i < l.length → (cellsS l)[i * 4]? = some (.string (atS0 l i)) ∧ (cellsS l)[i * 4 + 1]? = some (.int .i64 (atS1 l i)) ∧ (cellsS l)[i * 4 + 2]? = some (.int .i64 (atS2 l i)) ∧ (cellsS l)[i * 4 + 3]? = some (.int .i64 (atS3 l i))
  | [], i, h => by simp at h
  | t :: r, 0, h => ⟨rfl, rfl, rfl, rfl⟩
  | t :: r, i + 1, h => by
    have q := cellsS_at r i (by simpa using h)
    rw [cellsS, show (i + 1) * 4 = i * 4 + 1 + 1 + 1 + 1 from by omega]
    simpa [atS0, atS1, atS2, atS3] using q
theorem rowvS_of {w : World} {B : Nat} {v : Value} {l : List TupS} (h : w.ownsRow B 76 4 v l.length (cellsS l)) : RowSV w v l.length (atS0 l) (atS1 l) (atS2 l) (atS3 l) := by
  rcases h.2 with ⟨rfl, h0⟩ | ⟨g, cap, cur, rfl, _⟩
  · exact Or.inl ⟨h0, rfl⟩
  · refine Or.inr ⟨g, cap, rfl, ⟨fun i hi => ?_, fun i hi => ?_, fun i hi => ?_, fun i hi => ?_, fun i => h.frozenAt i, (h.lt _ rfl).2⟩⟩
    · rw [h.cellAt (i * 4) (by omega)]; exact (cellsS_at l i hi).1
    · rw [h.cellAt (i * 4 + 1) (by omega)]; exact (cellsS_at l i hi).2.1
    · rw [h.cellAt (i * 4 + 2) (by omega)]; exact (cellsS_at l i hi).2.2.1
    · rw [h.cellAt (i * 4 + 3) (by omega)]; exact (cellsS_at l i hi).2.2.2
set_option maxRecDepth 100000 in
set_option maxHeartbeats 1000000 in
theorem eqOneS (x0 : ByteArray) (x1 : Int) (x2 : Int) (x3 : Int) (w : World) : Calls Try.prog 83 #[.agg #[.string x0, .int .i64 x1, .int .i64 x2, .int .i64 x3], .agg #[.string x0, .int .i64 x1, .int .i64 x2, .int .i64 x3]] w fun r w' => r = .returned (.bool true) ∧ Below w.heap.size w w' := by
  have e0 : (x0.toList == x0.toList) = true := by simp
  go_enter Try.func83, Try.ntmps83
  go_wp2
  go_ret
  exact ⟨rfl, by repeat (first | (with_reducible refine Below.setCell ?_ (by first | omega | (simp; try omega)) _) | (with_reducible refine Below.alloc ?_ (by first | omega | (simp; try omega)) _) | (with_reducible exact Below.refl _ _))⟩
set_option maxRecDepth 100000 in
set_option maxHeartbeats 1000000 in
theorem eqRowS {n a b : Nat} {F0 : Nat → ByteArray} {F1 : Nat → Int} {F2 : Nat → Int} {F3 : Nat → Int} {w : World} (X : RowS w a n F0 F1 F2 F3) (Y : RowS w b n F0 F1 F2 F3) (ca cb : Nat) (hn : n ≤ 1048576) :
    Calls Try.prog 56 #[.slice (some ⟨a, 0, none⟩) n ca, .slice (some ⟨b, 0, none⟩) n cb] w fun r w' => r = .returned (.bool true) ∧ Below w.heap.size w w' := by
  go_enter Try.func56, Try.ntmps56
  go_wp2
  go_loopw [5] (fun i wx => ∃ k : Nat, k ≤ n ∧ i = .int .i64 k ∧ Below w.heap.size w wx) (fun i _ => n - (intOf i).toNat)
  case atStart => exact ⟨0, by omega, rfl, Below.refl _ _⟩
  case round =>
    obtain ⟨k, hk, rfl, B⟩ := hrel
    by_cases hkn : k < n
    · have XX := X.next B
      have YY := Y.next B
      have a0 := XX.c0 k hkn
      have b0 := YY.c0 k hkn
      have a1 := XX.c1 k hkn
      have b1 := YY.c1 k hkn
      have a2 := XX.c2 k hkn
      have b2 := YY.c2 k hkn
      have a3 := XX.c3 k hkn
      have b3 := YY.c3 k hkn
      have i0 : (0 : Int) ≤ (k : Int) := by omega
      have i1 : (k : Int) < (n : Int) := by omega
      go_wp2
      go_region_with (go_at_call 83; refine (eqOneS (F0 k) (F1 k) (F2 k) (F3 k) _).mono ?_; rintro e w2 ⟨rfl, B2⟩; (have B3 : Below wr.heap.size wr w2 := ⟨B2.os, B2.tape, B2.output, B2.size, B2.block⟩))
      all_goals
        go_wp2
        go_roundw
        case rel => exact ⟨k + 1, by omega, by go_num, B.trans (B3.mono B.size)⟩
        case measure => simp [intOf]; omega
    · have hkk : k = n := by omega
      subst hkk
      go_wp2
      go_ret
      exact ⟨rfl, B⟩
set_option maxRecDepth 100000 in
theorem eqRowS0 (a b : Option Addr) (ca cb : Nat) (w : World) : Calls Try.prog 56 #[.slice a 0 ca, .slice b 0 cb] w fun r w' => r = .returned (.bool true) ∧ Below w.heap.size w w' := by
  go_enter Try.func56, Try.ntmps56
  go_wp2
  refine wp_loop_rounds 1 ?_
  rw [rounds_succ]
  go_wp2
  go_ret
  exact ⟨rfl, Below.refl _ _⟩
theorem eqRowSV {w : World} {u v : Value} {n : Nat} {F0 : Nat → ByteArray} {F1 : Nat → Int} {F2 : Nat → Int} {F3 : Nat → Int} (X : RowSV w u n F0 F1 F2 F3) (Y : RowSV w v n F0 F1 F2 F3) (hn : n ≤ 1048576) :
    Calls Try.prog 56 #[u, v] w fun r w' => r = .returned (.bool true) ∧ Below w.heap.size w w' := by
  rcases X with ⟨rfl, rfl⟩ | ⟨o, c, rfl, X⟩
  · rcases Y with ⟨_, rfl⟩ | ⟨o, c, rfl, Y⟩
    · exact eqRowS0 _ _ _ _ w
    · exact eqRowS0 _ _ _ _ w
  · rcases Y with ⟨h0, rfl⟩ | ⟨o', c', rfl, Y⟩
    · subst h0; exact eqRowS0 _ _ _ _ w
    · exact eqRowS X Y _ _ hn
def mkS0 (i : Nat) : ByteArray := mtext (1 + 4 * i)
def mkS1 (i : Nat) : Int := ((1 + 4 * i + 1 : Nat) : Int)
def mkS2 (i : Nat) : Int := ((1 + 4 * i + 2 : Nat) : Int)
def mkS3 (i : Nat) : Int := ((1 + 4 * i + 3 : Nat) : Int)
set_option maxHeartbeats 2000000 in
set_option maxRecDepth 100000 in
theorem markS {w : World} {o n : Nat} {F0 : Nat → ByteArray} {F1 : Nat → Int} {F2 : Nat → Int} {F3 : Nat → Int} (R : RowS w o n F0 F1 F2 F3) (c : Nat) (hn : n ≤ 12) :
    Calls Try.prog 58 #[.slice (some ⟨o, 0, none⟩) n c, .int .i64 1] w fun r w' => r = .returned (.int .i64 ((1 + 4 * n : Nat) : Int)) ∧ RowS w' o n mkS0 mkS1 mkS2 mkS3 ∧ Only o w w' := by
  go_enter Try.func58, Try.ntmps58
  go_wp2
  go_loopw [1, 5] (fun l i wr => ∃ k : Nat, k ≤ n ∧ i = .int .i64 k ∧ l = .int .i64 ((1 + 4 * k : Nat) : Int) ∧ RowS wr o n (fun j => if j < k then mkS0 j else F0 j) (fun j => if j < k then mkS1 j else F1 j) (fun j => if j < k then mkS2 j else F2 j) (fun j => if j < k then mkS3 j else F3 j) ∧ Only o w wr) (fun _ i _ => n - (intOf i).toNat)
  case atStart => exact ⟨0, by omega, rfl, rfl, R.mono (Nat.le_refl _) (fun j _ => by simp) (fun j _ => by simp) (fun j _ => by simp) (fun j _ => by simp), Only.refl _ _⟩
  case round =>
    obtain ⟨k, hk, rfl, rfl, RK, OK⟩ := hrel
    by_cases hkn : k < n
    · have i1 : (k : Int) < (n : Int) := by omega
      have i0 : (0 : Int) ≤ (k : Int) := by omega
      obtain ⟨M, hM⟩ : ∃ M : Nat, 1 + 4 * k = M := ⟨_, rfl⟩
      have M0 : M ≤ 49 := by omega
      have HM : Hid (1 + 4 * k = M) := hM
      rw [hM]
      have HT0 : Hid (∀ w1 : World, Calls Try.prog 57 #[.int .i64 (((M : Nat) : Int))] w1 fun r w' => r = .returned (.string (mtext M)) ∧ Below w1.heap.size w1 w') := fun w1 => by exact markText15 (M) w1 (by omega) (by omega)
      have HR0 : Hid _ := RK
      have HO0 : Hid _ := OK
      clear RK OK
      clear hM
      go_wp2_with (first | (go_at_call 57; (with_reducible refine ((Hid.out HT0) _).mono ?_); rintro e v1 ⟨rfl, B1⟩; (have S1 : Hid _ := (HR0.out).next B1); (have P1 : Hid _ := (HO0.out).trans (Only.ofBelow B1)); (have f0 := S1.out.free (k * 4)); (have g0 : v1.cell? ⟨o, k * 4, none⟩ = some (.string (F0 k)) := by have := S1.out.c0 k hkn; simpa using this); (have f1 := S1.out.free (k * 4 + 1)); (have g1 : v1.cell? ⟨o, k * 4 + 1, none⟩ = some (.int .i64 (F1 k)) := by have := S1.out.c1 k hkn; simpa using this); (have f2 := S1.out.free (k * 4 + 2)); (have g2 : v1.cell? ⟨o, k * 4 + 2, none⟩ = some (.int .i64 (F2 k)) := by have := S1.out.c2 k hkn; simpa using this); (have f3 := S1.out.free (k * 4 + 3)); (have g3 : v1.cell? ⟨o, k * 4 + 3, none⟩ = some (.int .i64 (F3 k)) := by have := S1.out.c3 k hkn; simpa using this); (have HR1 : Hid _ := ((((((((S1.out).set0 k (mtext M))).set1 k (((M : Nat) : Int) + 1))).set2 k (((M : Nat) : Int) + 1 + 1))).set3 k (((M : Nat) : Int) + 1 + 1 + 1))); (have HO1 : Hid _ := ((((((((P1.out).setCell (k * 4) (.string (mtext M)))).setCell (k * 4 + 1) (.int .i64 (((M : Nat) : Int) + 1)))).setCell (k * 4 + 2) (.int .i64 (((M : Nat) : Int) + 1 + 1)))).setCell (k * 4 + 3) (.int .i64 (((M : Nat) : Int) + 1 + 1 + 1))))))
      have hM := HM.out
      have q0 : mkS0 k = mtext M := by unfold mkS0; rw [hM]
      have q1 : mkS1 k = ((M : Nat) : Int) + 1 := by unfold mkS1; rw [hM]; omega
      have q2 : mkS2 k = ((M : Nat) : Int) + 1 + 1 := by unfold mkS2; rw [hM]; omega
      have q3 : mkS3 k = ((M : Nat) : Int) + 1 + 1 + 1 := by unfold mkS3; rw [hM]; omega
      refine ⟨⟨k + 1, by omega, by go_num, by congr 1; omega, (HR1.out).mono (Nat.le_refl _) (fun j _ => ?_) (fun j _ => ?_) (fun j _ => ?_) (fun j _ => ?_), HO1.out⟩, by simp [intOf]; omega⟩
      · rw [← q0]; exact upTo mkS0 F0 k j
      · rw [← q1]; exact upTo mkS1 F1 k j
      · rw [← q2]; exact upTo mkS2 F2 k j
      · rw [← q3]; exact upTo mkS3 F3 k j
    · have hkk : k = n := by omega
      subst hkk
      go_wp2
      go_ret
      exact ⟨rfl, RK.mono (Nat.le_refl _) (fun j hj => by simp [hj]) (fun j hj => by simp [hj]) (fun j hj => by simp [hj]) (fun j hj => by simp [hj]), OK⟩
set_option maxRecDepth 100000 in
theorem markS0 (a : Option Addr) (c : Nat) (w : World) : Calls Try.prog 58 #[.slice a 0 c, .int .i64 1] w fun r w' => r = .returned (.int .i64 1) ∧ w' = w := by
  go_enter Try.func58, Try.ntmps58
  go_wp2
  refine wp_loop_rounds 1 ?_
  rw [rounds_succ]
  go_wp2
  go_ret
  exact ⟨rfl, rfl⟩
theorem markSV {w : World} {v : Value} {n : Nat} {F0 : Nat → ByteArray} {F1 : Nat → Int} {F2 : Nat → Int} {F3 : Nat → Int} (R : RowSV w v n F0 F1 F2 F3) (hn : n ≤ 12) :
    Calls Try.prog 58 #[v, .int .i64 1] w fun r w' => r = .returned (.int .i64 ((1 + 4 * n : Nat) : Int)) ∧ RowSV w' v n mkS0 mkS1 mkS2 mkS3 ∧ w.grownBy w' v.ownBlock := by
  rcases R with ⟨rfl, rfl⟩ | ⟨o, c, rfl, R⟩
  · exact (markS0 none 0 w).mono fun e w' ⟨h1, h2⟩ => ⟨h1, Or.inl ⟨rfl, rfl⟩, by rw [h2]; exact grown_below (Below.refl _ _) _⟩
  · exact (markS R c hn).mono fun e w' ⟨h1, h2, h3⟩ => ⟨h1, Or.inr ⟨o, c, rfl, h2⟩, ⟨h3.os, h3.tape, h3.output, h3.size, fun k hk hne => h3.block k hk (fun e => hne (by rw [e]; rfl))⟩⟩
set_option maxHeartbeats 2000000 in
set_option maxRecDepth 100000 in
theorem heldS {w : World} {o n : Nat} (R : RowS w o n mkS0 mkS1 mkS2 mkS3) (c : Nat) (hn : n ≤ 12) :
    Calls Try.prog 59 #[.slice (some ⟨o, 0, none⟩) n c, .int .i64 1] w fun r w' => r = .returned (.int .i64 ((1 + 4 * n : Nat) : Int)) ∧ Below w.heap.size w w' := by
  go_enter Try.func59, Try.ntmps59
  go_wp2
  go_loopw [1, 5] (fun l i wx => ∃ k : Nat, k ≤ n ∧ i = .int .i64 k ∧ l = .int .i64 ((1 + 4 * k : Nat) : Int) ∧ Below w.heap.size w wx) (fun _ i _ => n - (intOf i).toNat)
  case atStart => exact ⟨0, by omega, rfl, rfl, Below.refl _ _⟩
  case round =>
    obtain ⟨k, hk, rfl, rfl, B⟩ := hrel
    by_cases hkn : k < n
    · have i1 : (k : Int) < (n : Int) := by omega
      have i0 : (0 : Int) ≤ (k : Int) := by omega
      obtain ⟨M, hM⟩ : ∃ M : Nat, 1 + 4 * k = M := ⟨_, rfl⟩
      have M0 : M ≤ 49 := by omega
      have RR := R.next B
      obtain ⟨s0, hs0⟩ : ∃ s, mtext M = s := ⟨_, rfl⟩
      have es0 : (s0.toList == s0.toList) = true := by simp
      have HT0 : Hid (∀ w1 : World, Calls Try.prog 57 #[.int .i64 (((M : Nat) : Int))] w1 fun r w' => r = .returned (.string s0) ∧ Below w1.heap.size w1 w') := fun w1 => by rw [← hs0]; exact markText15 (M) w1 (by omega) (by omega)
      have HR : Hid (∀ w2, Below wr.heap.size wr w2 → w2.cell? ⟨o, k * 4, none⟩ = some (.string s0) ∧ w2.cell? ⟨o, k * 4 + 1, none⟩ = some (.int .i64 (((M : Nat) : Int) + 1)) ∧ w2.cell? ⟨o, k * 4 + 2, none⟩ = some (.int .i64 (((M : Nat) : Int) + 1 + 1)) ∧ w2.cell? ⟨o, k * 4 + 3, none⟩ = some (.int .i64 (((M : Nat) : Int) + 1 + 1 + 1))) := fun w2 B2 => ⟨by rw [(RR.next B2).c0 k hkn, mkS0, hM]; first | rw [hs0] | exact congrArg (fun x => some (Value.string x)) hs0, by rw [(RR.next B2).c1 k hkn, mkS1, hM]; congr 2, by rw [(RR.next B2).c2 k hkn, mkS2, hM]; congr 2, by rw [(RR.next B2).c3 k hkn, mkS3, hM]; congr 2⟩
      obtain ⟨c0, c1, c2, c3⟩ := HR.out wr (Below.refl _ _)
      have HM : Hid (1 + 4 * k = M) := hM
      rw [hM]
      have HB0 : Hid (Below w.heap.size w wr) := B
      have Bz : Below wr.heap.size wr wr := Below.refl _ _
      clear hM RR R hs0
      go_wp2
      go_region_with (go_at_call 57; refine ((Hid.out HT0) _).mono ?_; rintro e v1 ⟨rfl, B1⟩; (have D1 : Below wr.heap.size wr v1 := Bz.trans (Below.mono ⟨B1.os, B1.tape, B1.output, B1.size, B1.block⟩ Bz.size)); (have d10 := (HR.out v1 D1).1); (have d11 := (HR.out v1 D1).2.1); (have d12 := (HR.out v1 D1).2.2.1); (have d13 := (HR.out v1 D1).2.2.2))
      all_goals
        go_wp2
        have hM := HM.out
        exact ⟨⟨k + 1, by omega, by go_num, by congr 1; omega, HB0.out.trans (D1.mono HB0.out.size)⟩, by simp [intOf]; omega⟩
    · have hkk : k = n := by omega
      subst hkk
      go_wp2
      go_ret
      exact ⟨rfl, B⟩
set_option maxRecDepth 100000 in
theorem heldS0 (a : Option Addr) (c : Nat) (w : World) : Calls Try.prog 59 #[.slice a 0 c, .int .i64 1] w fun r w' => r = .returned (.int .i64 1) ∧ w' = w := by
  go_enter Try.func59, Try.ntmps59
  go_wp2
  refine wp_loop_rounds 1 ?_
  rw [rounds_succ]
  go_wp2
  go_ret
  exact ⟨rfl, rfl⟩
theorem heldSV {w : World} {v : Value} {n : Nat} (R : RowSV w v n mkS0 mkS1 mkS2 mkS3) (hn : n ≤ 12) :
    Calls Try.prog 59 #[v, .int .i64 1] w fun r w' => r = .returned (.int .i64 ((1 + 4 * n : Nat) : Int)) ∧ Below w.heap.size w w' := by
  rcases R with ⟨rfl, rfl⟩ | ⟨o, c, rfl, R⟩
  · exact (heldS0 none 0 w).mono fun e w' ⟨h1, h2⟩ => ⟨h1, by rw [h2]; exact Below.refl _ _⟩
  · exact heldS R c hn
/-- n structs of block o, from its head on; each may be written. -/
structure RowF (w : World) (o n : Nat) (F0 : Nat → ByteArray) (F1 : Nat → ByteArray) (F2 : Nat → Int) : Prop where
  c0 : ∀ i, i < n → w.cell? ⟨o, i * 3, none⟩ = some (.string (F0 i))
  c1 : ∀ i, i < n → w.cell? ⟨o, i * 3 + 1, none⟩ = some (.string (F1 i))
  c2 : ∀ i, i < n → w.cell? ⟨o, i * 3 + 2, none⟩ = some (.int .i64 (F2 i))
  free : ∀ i, w.frozen? ⟨o, i, none⟩ = false
  hi : o < w.heap.size
theorem RowF.mono {w : World} {o n m : Nat} {F0 : Nat → ByteArray} {F1 : Nat → ByteArray} {F2 : Nat → Int} {G0 : Nat → ByteArray} {G1 : Nat → ByteArray} {G2 : Nat → Int} (h : RowF w o n F0 F1 F2) (hm : m ≤ n) (h0 : ∀ i, i < m → G0 i = F0 i) (h1 : ∀ i, i < m → G1 i = F1 i) (h2 : ∀ i, i < m → G2 i = F2 i) : RowF w o m G0 G1 G2 :=
  ⟨fun i hi => by rw [h0 i hi]; exact h.c0 i (by omega), fun i hi => by rw [h1 i hi]; exact h.c1 i (by omega), fun i hi => by rw [h2 i hi]; exact h.c2 i (by omega), h.free, h.hi⟩
theorem RowF.next {w w' : World} {o n : Nat} {F0 : Nat → ByteArray} {F1 : Nat → ByteArray} {F2 : Nat → Int} (h : RowF w o n F0 F1 F2) (hb : Below w.heap.size w w') : RowF w' o n F0 F1 F2 := by
  have z := hb.size
  have zh := h.hi
  exact ⟨fun i hi => (hb.cell (p := ⟨o, i * 3, none⟩) h.hi).trans (h.c0 i hi), fun i hi => (hb.cell (p := ⟨o, i * 3 + 1, none⟩) h.hi).trans (h.c1 i hi), fun i hi => (hb.cell (p := ⟨o, i * 3 + 2, none⟩) h.hi).trans (h.c2 i hi), fun i => (hb.frozen (p := ⟨o, i, none⟩) h.hi).trans (h.free i), by omega⟩
theorem RowF.drewN {w : World} {o n : Nat} {F0 : Nat → ByteArray} {F1 : Nat → ByteArray} {F2 : Nat → Int} (h : RowF w o n F0 F1 F2) (q : Nat) : RowF (w.drewN q) o n F0 F1 F2 := ⟨h.c0, h.c1, h.c2, h.free, h.hi⟩
theorem RowF.grown {w w' : World} {o n : Nat} {F0 : Nat → ByteArray} {F1 : Nat → ByteArray} {F2 : Nat → Int} {row : Option Nat} (h : RowF w o n F0 F1 F2) (hb : w.grownBy w' row) (hne : some o ≠ row) : RowF w' o n F0 F1 F2 := by
  have z := hb.size
  have zh := h.hi
  have b := hb.block o zh hne
  exact ⟨fun i hi => (World.cell?_of_block (w := w) (a := ⟨o, i * 3, none⟩) b).trans (h.c0 i hi), fun i hi => (World.cell?_of_block (w := w) (a := ⟨o, i * 3 + 1, none⟩) b).trans (h.c1 i hi), fun i hi => (World.cell?_of_block (w := w) (a := ⟨o, i * 3 + 2, none⟩) b).trans (h.c2 i hi), fun i => (World.frozen?_of_block (w := w) (a := ⟨o, i, none⟩) b).trans (h.free i), by omega⟩
theorem RowF.set0 {w : World} {o n : Nat} {F0 : Nat → ByteArray} {F1 : Nat → ByteArray} {F2 : Nat → Int} (h : RowF w o n F0 F1 F2) (q : Nat) (a : ByteArray) : RowF (w.setCell ⟨o, q * 3, none⟩ (.string a)) o n (fun i => if i = q then a else F0 i) F1 F2 := by
  refine ⟨fun i hi => ?_, fun i hi => ?_, fun i hi => ?_, fun i => by simp [h.free i], by simpa using h.hi⟩
  · rw [cell_put _ _ _ _ _ _ (h.c0 i hi)]
    by_cases e : i = q
    · subst e; simp
    · rw [if_neg (by omega)]; simp [e]
  · rw [cell_put _ _ _ _ _ _ (h.c1 i hi), if_neg (by omega)]
  · rw [cell_put _ _ _ _ _ _ (h.c2 i hi), if_neg (by omega)]
theorem RowF.set1 {w : World} {o n : Nat} {F0 : Nat → ByteArray} {F1 : Nat → ByteArray} {F2 : Nat → Int} (h : RowF w o n F0 F1 F2) (q : Nat) (a : ByteArray) : RowF (w.setCell ⟨o, q * 3 + 1, none⟩ (.string a)) o n F0 (fun i => if i = q then a else F1 i) F2 := by
  refine ⟨fun i hi => ?_, fun i hi => ?_, fun i hi => ?_, fun i => by simp [h.free i], by simpa using h.hi⟩
  · rw [cell_put _ _ _ _ _ _ (h.c0 i hi), if_neg (by omega)]
  · rw [cell_put _ _ _ _ _ _ (h.c1 i hi)]
    by_cases e : i = q
    · subst e; simp
    · rw [if_neg (by omega)]; simp [e]
  · rw [cell_put _ _ _ _ _ _ (h.c2 i hi), if_neg (by omega)]
theorem RowF.set2 {w : World} {o n : Nat} {F0 : Nat → ByteArray} {F1 : Nat → ByteArray} {F2 : Nat → Int} (h : RowF w o n F0 F1 F2) (q : Nat) (a : Int) : RowF (w.setCell ⟨o, q * 3 + 2, none⟩ (.int .i64 a)) o n F0 F1 (fun i => if i = q then a else F2 i) := by
  refine ⟨fun i hi => ?_, fun i hi => ?_, fun i hi => ?_, fun i => by simp [h.free i], by simpa using h.hi⟩
  · rw [cell_put _ _ _ _ _ _ (h.c0 i hi), if_neg (by omega)]
  · rw [cell_put _ _ _ _ _ _ (h.c1 i hi), if_neg (by omega)]
  · rw [cell_put _ _ _ _ _ _ (h.c2 i hi)]
    by_cases e : i = q
    · subst e; simp
    · rw [if_neg (by omega)]; simp [e]
/-- A slice of n structs that a call made, or none. -/
def RowFV (w : World) (v : Value) (n : Nat) (F0 : Nat → ByteArray) (F1 : Nat → ByteArray) (F2 : Nat → Int) : Prop := (n = 0 ∧ v = .slice none 0 0) ∨ ∃ o c, v = .slice (some ⟨o, 0, none⟩) n c ∧ RowF w o n F0 F1 F2
theorem RowFV.grown {w w' : World} {v : Value} {n : Nat} {F0 : Nat → ByteArray} {F1 : Nat → ByteArray} {F2 : Nat → Int} {row : Option Nat} (h : RowFV w v n F0 F1 F2) (hb : w.grownBy w' row) (hne : v.ownBlock = none ∨ v.ownBlock ≠ row) : RowFV w' v n F0 F1 F2 := by
  rcases h with h | ⟨o, c, rfl, R⟩
  · exact Or.inl h
  · exact Or.inr ⟨o, c, rfl, R.grown hb (by simpa [Value.ownBlock] using hne)⟩
theorem RowFV.next {w w' : World} {v : Value} {n : Nat} {F0 : Nat → ByteArray} {F1 : Nat → ByteArray} {F2 : Nat → Int} (h : RowFV w v n F0 F1 F2) (hb : Below w.heap.size w w') : RowFV w' v n F0 F1 F2 := h.grown (grown_below hb none) (by cases hv : v.ownBlock <;> simp)
theorem RowFV.is {w : World} {v : Value} {n : Nat} {F0 : Nat → ByteArray} {F1 : Nat → ByteArray} {F2 : Nat → Int} (R : RowFV w v n F0 F1 F2) : ∃ a l c, v = .slice a l c := by
  rcases R with ⟨_, rfl⟩ | ⟨o, c, rfl, _⟩
  · exact ⟨_, _, _, rfl⟩
  · exact ⟨_, _, _, rfl⟩
theorem RowFV.lt {w : World} {v : Value} {n : Nat} {F0 : Nat → ByteArray} {F1 : Nat → ByteArray} {F2 : Nat → Int} (h : RowFV w v n F0 F1 F2) : ∀ g, v.ownBlock = some g → g < w.heap.size := by
  rcases h with ⟨_, rfl⟩ | ⟨o, c, rfl, R⟩
  · intro g hg; simp [Value.ownBlock] at hg
  · intro g hg; simp [Value.ownBlock] at hg; subst hg; exact R.hi
def mkF0 (i : Nat) : ByteArray := mtext (1 + 3 * i)
def mkF1 (i : Nat) : ByteArray := mtext (1 + 3 * i + 1)
def mkF2 (i : Nat) : Int := ((1 + 3 * i + 2 : Nat) : Int)
set_option maxHeartbeats 2000000 in
set_option maxRecDepth 100000 in
theorem markF {w : World} {o n : Nat} {F0 : Nat → ByteArray} {F1 : Nat → ByteArray} {F2 : Nat → Int} (R : RowF w o n F0 F1 F2) (c : Nat) (hn : n ≤ 1048576) :
    Calls Try.prog 19 #[.slice (some ⟨o, 0, none⟩) n c, .int .i64 1] w fun r w' => r = .returned (.int .i64 ((1 + 3 * n : Nat) : Int)) ∧ RowF w' o n mkF0 mkF1 mkF2 ∧ Only o w w' := by
  go_enter Try.func19, Try.ntmps19
  go_wp2
  go_loopw [1, 5] (fun l i wr => ∃ k : Nat, k ≤ n ∧ i = .int .i64 k ∧ l = .int .i64 ((1 + 3 * k : Nat) : Int) ∧ RowF wr o n (fun j => if j < k then mkF0 j else F0 j) (fun j => if j < k then mkF1 j else F1 j) (fun j => if j < k then mkF2 j else F2 j) ∧ Only o w wr) (fun _ i _ => n - (intOf i).toNat)
  case atStart => exact ⟨0, by omega, rfl, rfl, R.mono (Nat.le_refl _) (fun j _ => by simp) (fun j _ => by simp) (fun j _ => by simp), Only.refl _ _⟩
  case round =>
    obtain ⟨k, hk, rfl, rfl, RK, OK⟩ := hrel
    by_cases hkn : k < n
    · have i1 : (k : Int) < (n : Int) := by omega
      have i0 : (0 : Int) ≤ (k : Int) := by omega
      obtain ⟨M, hM⟩ : ∃ M : Nat, 1 + 3 * k = M := ⟨_, rfl⟩
      have M0 : M ≤ 3145729 := by omega
      have HM : Hid (1 + 3 * k = M) := hM
      rw [hM]
      have HT0 : Hid (∀ w1 : World, Calls Try.prog 57 #[.int .i64 (((M : Nat) : Int))] w1 fun r w' => r = .returned (.string (mtext M)) ∧ Below w1.heap.size w1 w') := fun w1 => by exact markText15 (M) w1 (by omega) (by omega)
      have HT1 : Hid (∀ w1 : World, Calls Try.prog 57 #[.int .i64 (((M : Nat) : Int) + 1)] w1 fun r w' => r = .returned (.string (mtext (M + 1))) ∧ Below w1.heap.size w1 w') := fun w1 => by rw [show ((M : Nat) : Int) + 1 = ((M + 1 : Nat) : Int) from by omega]; exact markText15 (M + 1) w1 (by omega) (by omega)
      have HR0 : Hid _ := RK
      have HO0 : Hid _ := OK
      clear RK OK
      clear hM
      go_wp2_with (first | (go_at_call 57; (with_reducible refine ((Hid.out HT0) _).mono ?_); rintro e v1 ⟨rfl, B1⟩; (have S1 : Hid _ := (HR0.out).next B1); (have P1 : Hid _ := (HO0.out).trans (Only.ofBelow B1)); (have f0 := S1.out.free (k * 3)); (have g0 : v1.cell? ⟨o, k * 3, none⟩ = some (.string (F0 k)) := by have := S1.out.c0 k hkn; simpa using this); (have HR1 : Hid _ := ((S1.out).set0 k (mtext M))); (have HO1 : Hid _ := ((P1.out).setCell (k * 3) (.string (mtext M))))) | (go_at_call 57; (with_reducible refine ((Hid.out HT1) _).mono ?_); rintro e v2 ⟨rfl, B2⟩; (have S2 : Hid _ := (HR1.out).next B2); (have P2 : Hid _ := (HO1.out).trans (Only.ofBelow B2)); (have f1 := S2.out.free (k * 3 + 1)); (have g1 : v2.cell? ⟨o, k * 3 + 1, none⟩ = some (.string (F1 k)) := by have := S2.out.c1 k hkn; simpa using this); (have f2 := S2.out.free (k * 3 + 2)); (have g2 : v2.cell? ⟨o, k * 3 + 2, none⟩ = some (.int .i64 (F2 k)) := by have := S2.out.c2 k hkn; simpa using this); (have HR2 : Hid _ := ((((S2.out).set1 k (mtext (M + 1)))).set2 k (((M : Nat) : Int) + 1 + 1))); (have HO2 : Hid _ := ((((P2.out).setCell (k * 3 + 1) (.string (mtext (M + 1))))).setCell (k * 3 + 2) (.int .i64 (((M : Nat) : Int) + 1 + 1))))))
      have hM := HM.out
      have q0 : mkF0 k = mtext M := by unfold mkF0; rw [hM]
      have q1 : mkF1 k = mtext (M + 1) := by unfold mkF1; rw [hM]
      have q2 : mkF2 k = ((M : Nat) : Int) + 1 + 1 := by unfold mkF2; rw [hM]; omega
      refine ⟨⟨k + 1, by omega, by go_num, by congr 1; omega, (HR2.out).mono (Nat.le_refl _) (fun j _ => ?_) (fun j _ => ?_) (fun j _ => ?_), HO2.out⟩, by simp [intOf]; omega⟩
      · rw [← q0]; exact upTo mkF0 F0 k j
      · rw [← q1]; exact upTo mkF1 F1 k j
      · rw [← q2]; exact upTo mkF2 F2 k j
    · have hkk : k = n := by omega
      subst hkk
      go_wp2
      go_ret
      exact ⟨rfl, RK.mono (Nat.le_refl _) (fun j hj => by simp [hj]) (fun j hj => by simp [hj]) (fun j hj => by simp [hj]), OK⟩
set_option maxRecDepth 100000 in
theorem markF0 (a : Option Addr) (c : Nat) (w : World) : Calls Try.prog 19 #[.slice a 0 c, .int .i64 1] w fun r w' => r = .returned (.int .i64 1) ∧ w' = w := by
  go_enter Try.func19, Try.ntmps19
  go_wp2
  refine wp_loop_rounds 1 ?_
  rw [rounds_succ]
  go_wp2
  go_ret
  exact ⟨rfl, rfl⟩
theorem markFV {w : World} {v : Value} {n : Nat} {F0 : Nat → ByteArray} {F1 : Nat → ByteArray} {F2 : Nat → Int} (R : RowFV w v n F0 F1 F2) (hn : n ≤ 1048576) :
    Calls Try.prog 19 #[v, .int .i64 1] w fun r w' => r = .returned (.int .i64 ((1 + 3 * n : Nat) : Int)) ∧ RowFV w' v n mkF0 mkF1 mkF2 ∧ w.grownBy w' v.ownBlock := by
  rcases R with ⟨rfl, rfl⟩ | ⟨o, c, rfl, R⟩
  · exact (markF0 none 0 w).mono fun e w' ⟨h1, h2⟩ => ⟨h1, Or.inl ⟨rfl, rfl⟩, by rw [h2]; exact grown_below (Below.refl _ _) _⟩
  · exact (markF R c hn).mono fun e w' ⟨h1, h2, h3⟩ => ⟨h1, Or.inr ⟨o, c, rfl, h2⟩, ⟨h3.os, h3.tape, h3.output, h3.size, fun k hk hne => h3.block k hk (fun e => hne (by rw [e]; rfl))⟩⟩
theorem RowF.of {w : World} {o n : Nat} {K T : Nat → ByteArray} {J : Nat → Int} (h : Row3 w o n K T J) : RowF w o n K T J := ⟨h.k, h.t, h.j, h.free, h.hi⟩
set_option maxHeartbeats 1000000 in
set_option maxRecDepth 100000 in
theorem mark20 {w : World} {v : Value} {n : Nat} {K : Nat → ByteArray} {F1 F2 F3 : Nat → Int} (R : RowSV w v n K F1 F2 F3) (hn : n ≤ 12) (cd a : Int) :
    Calls Try.prog 20 #[.agg #[v, .int .i64 cd, .int .i64 a], .int .i64 1] w fun r w' => r = .returned (.int .i64 ((1 + 4 * n : Nat) : Int)) ∧ RowSV w' v n mkS0 mkS1 mkS2 mkS3 ∧ w.grownBy w' v.ownBlock := by
  obtain ⟨s, l, c, rfl⟩ := R.is
  have H : Hid (∀ wx : World, Below w.heap.size w wx → Calls Try.prog 58 #[.slice s l c, .int .i64 1] wx fun r w' => r = .returned (.int .i64 ((1 + 4 * n : Nat) : Int)) ∧ RowSV w' (.slice s l c) n mkS0 mkS1 mkS2 mkS3 ∧ w.grownBy w' (Value.slice s l c).ownBlock) := fun wx b =>
    (markSV (R.next b) hn).mono fun e w' ⟨h1, h2, h3⟩ => ⟨h1, h2, grown_trans (grown_below b _) h3⟩
  clear R
  obtain ⟨N, hN⟩ : ∃ N : Int, ((1 + 4 * n : Nat) : Int) = N := ⟨_, rfl⟩
  rw [hN] at H ⊢
  clear hN
  go_enter Try.func20, Try.ntmps20
  go_wp2_with (go_at_call 58; refine ((Hid.out H) _ alloc_b).mono ?_; rintro e w1 ⟨rfl, R1, g1⟩)
  go_ret
  exact ⟨rfl, R1, g1⟩
set_option maxHeartbeats 1000000 in
set_option maxRecDepth 100000 in
theorem held21 {w : World} {v : Value} {n : Nat} (R : RowSV w v n mkS0 mkS1 mkS2 mkS3) (hn : n ≤ 12) (cd a : Int) :
    Calls Try.prog 21 #[.agg #[v, .int .i64 cd, .int .i64 a], .int .i64 1] w fun r w' => r = .returned (.int .i64 ((1 + 4 * n : Nat) : Int)) ∧ Below w.heap.size w w' := by
  obtain ⟨s, l, c, rfl⟩ := R.is
  have H : Hid (∀ wx : World, Below w.heap.size w wx → Calls Try.prog 59 #[.slice s l c, .int .i64 1] wx fun r w' => r = .returned (.int .i64 ((1 + 4 * n : Nat) : Int)) ∧ Below w.heap.size w w') := fun wx b =>
    (heldSV (R.next b) hn).mono fun e w' ⟨h1, h2⟩ => ⟨h1, b.trans (h2.mono b.size)⟩
  clear R
  obtain ⟨N, hN⟩ : ∃ N : Int, ((1 + 4 * n : Nat) : Int) = N := ⟨_, rfl⟩
  rw [hN] at H ⊢
  have N0 : ¬ N < 0 := by omega
  clear hN
  go_enter Try.func21, Try.ntmps21
  go_wp2_with (go_at_call 59; refine ((Hid.out H) _ alloc_b).mono ?_; rintro e w1 ⟨rfl, B1⟩)
  go_ret
  exact ⟨rfl, B1⟩
set_option maxHeartbeats 1000000 in
set_option maxRecDepth 100000 in
theorem eq18 {w : World} {u v : Value} {n : Nat} {K : Nat → ByteArray} {F1 F2 F3 : Nat → Int} (X : RowSV w u n K F1 F2 F3) (Y : RowSV w v n K F1 F2 F3) (hn : n ≤ 12) (cd a : Int) :
    Calls Try.prog 18 #[.agg #[u, .int .i64 cd, .int .i64 a], .agg #[v, .int .i64 cd, .int .i64 a]] w fun r w' => r = .returned (.bool true) ∧ Below w.heap.size w w' := by
  obtain ⟨s, l, c, rfl⟩ := X.is
  obtain ⟨s', l', c', rfl⟩ := Y.is
  have H : Hid (∀ wx : World, Below w.heap.size w wx → Calls Try.prog 56 #[.slice s l c, .slice s' l' c'] wx fun r w' => r = .returned (.bool true) ∧ Below w.heap.size w w' ∧ (wx.cell? ⟨w.heap.size, 1, none⟩ = some (.int .i64 cd) ∧ wx.cell? ⟨w.heap.size, 2, none⟩ = some (.int .i64 a) ∧ wx.cell? ⟨w.heap.size + 1, 1, none⟩ = some (.int .i64 cd) ∧ wx.cell? ⟨w.heap.size + 1, 2, none⟩ = some (.int .i64 a) ∧ wx.heap.size = w.heap.size + 2 → w'.cell? ⟨w.heap.size, 1, none⟩ = some (.int .i64 cd) ∧ w'.cell? ⟨w.heap.size, 2, none⟩ = some (.int .i64 a) ∧ w'.cell? ⟨w.heap.size + 1, 1, none⟩ = some (.int .i64 cd) ∧ w'.cell? ⟨w.heap.size + 1, 2, none⟩ = some (.int .i64 a))) := fun wx b =>
    (eqRowSV (X.next b) (Y.next b) (by omega)).mono fun e w' ⟨h1, h2⟩ => ⟨h1, b.trans (h2.mono b.size), fun ⟨c1, c2, c3, c4, z⟩ => ⟨(h2.cell (p := ⟨w.heap.size, 1, none⟩) (by show w.heap.size < _; omega)).trans c1, (h2.cell (p := ⟨w.heap.size, 2, none⟩) (by show w.heap.size < _; omega)).trans c2, (h2.cell (p := ⟨w.heap.size + 1, 1, none⟩) (by show w.heap.size + 1 < _; omega)).trans c3, (h2.cell (p := ⟨w.heap.size + 1, 2, none⟩) (by show w.heap.size + 1 < _; omega)).trans c4⟩⟩
  clear X Y
  go_enter Try.func18, Try.ntmps18
  go_wp2_with (go_at_call 56; refine ((Hid.out H) _ (by first | exact (alloc_b.trans (alloc_b.mono (by simp))) | exact below_drewN (alloc_b.trans (alloc_b.mono (by simp))) _)).mono ?_; rintro e w1 ⟨rfl, B1, hc⟩; obtain ⟨c1, c2, c3, c4⟩ := hc (by simp))
  go_ret
  exact ⟨rfl, B1⟩
end Go.Proofs.Yteakeaclpcgopaa
