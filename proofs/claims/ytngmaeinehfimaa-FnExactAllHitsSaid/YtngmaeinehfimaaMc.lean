/- Rows of hits: made, compared, marked, held; rows of one's own, appended to. -/
import Derived.Test.YtngmaeinehfimaaMa
import Derived.Laws.AppendOwn
import Derived.Laws.AppendOwnNone
import Derived.Maps.AppendAt
namespace Go.Proofs.Ytngmaeinehfimaa
open Go.ChangeShapes Go.WideShapes Go.ChangeAt Go.RowKit
set_option linter.unusedVariables false
theorem cell_put (w : World) (o i j : Nat) (v u : Value) (h : w.cell? ⟨o, i, none⟩ = some u) : (w.setCell ⟨o, j, none⟩ v).cell? ⟨o, i, none⟩ = some (if i = j then v else u) := by
  by_cases e : i = j
  · subst e
    rw [if_pos rfl]
    exact World.cell?_setCell_same' w _ _ (by rw [h]; rfl)
  · rw [if_neg e]
    have hne : (⟨o, j, none⟩ : Addr) ≠ ⟨o, i, none⟩ := by
      intro k; injection k with _ k2; exact e k2.symm
    rw [World.cell?_setCell_other (h := hne)]
    exact h
theorem upTo {α : Type} (f g : Nat → α) (k j : Nat) : (if j < k + 1 then f j else g j) = if j = k then f k else if j < k then f j else g j := by
  by_cases e1 : j = k
  · subst e1; simp
  · rw [if_neg e1]
    by_cases e2 : j < k
    · rw [if_pos e2, if_pos (by omega)]
    · rw [if_neg e2, if_neg (by omega)]
theorem grown_below {w w' : World} (hb : Below w.heap.size w w') (row : Option Nat) : w.grownBy w' row := ⟨hb.os, hb.tape, hb.output, hb.size, fun k hk _ => hb.block k hk⟩
theorem grown_trans {a b c : World} {row : Option Nat} (h : a.grownBy b row) (k : b.grownBy c row) : a.grownBy c row := ⟨k.os.trans h.os, k.tape.trans h.tape, k.output.trans h.output, Nat.le_trans h.size k.size, fun i hi hn => (k.block i (Nat.lt_of_lt_of_le hi h.size) hn).trans (h.block i hi hn)⟩
/-- n structs of block o, from its head on; each may be written. -/
structure RowH (w : World) (o n : Nat) (F0 : Nat → Int) (F1 : Nat → Int) (F2 : Nat → Int) : Prop where
  c0 : ∀ i, i < n → w.cell? ⟨o, i * 3, none⟩ = some (.int .i64 (F0 i))
  c1 : ∀ i, i < n → w.cell? ⟨o, i * 3 + 1, none⟩ = some (.int .i64 (F1 i))
  c2 : ∀ i, i < n → w.cell? ⟨o, i * 3 + 2, none⟩ = some (.int .i64 (F2 i))
  free : ∀ i, w.frozen? ⟨o, i, none⟩ = false
  hi : o < w.heap.size
theorem RowH.mono {w : World} {o n m : Nat} {F0 : Nat → Int} {F1 : Nat → Int} {F2 : Nat → Int} {G0 : Nat → Int} {G1 : Nat → Int} {G2 : Nat → Int} (h : RowH w o n F0 F1 F2) (hm : m ≤ n) (h0 : ∀ i, i < m → G0 i = F0 i) (h1 : ∀ i, i < m → G1 i = F1 i) (h2 : ∀ i, i < m → G2 i = F2 i) : RowH w o m G0 G1 G2 :=
  ⟨fun i hi => by rw [h0 i hi]; exact h.c0 i (by omega), fun i hi => by rw [h1 i hi]; exact h.c1 i (by omega), fun i hi => by rw [h2 i hi]; exact h.c2 i (by omega), h.free, h.hi⟩
theorem RowH.next {w w' : World} {o n : Nat} {F0 : Nat → Int} {F1 : Nat → Int} {F2 : Nat → Int} (h : RowH w o n F0 F1 F2) (hb : Below w.heap.size w w') : RowH w' o n F0 F1 F2 := by
  have z := hb.size
  have zh := h.hi
  exact ⟨fun i hi => (hb.cell (p := ⟨o, i * 3, none⟩) h.hi).trans (h.c0 i hi), fun i hi => (hb.cell (p := ⟨o, i * 3 + 1, none⟩) h.hi).trans (h.c1 i hi), fun i hi => (hb.cell (p := ⟨o, i * 3 + 2, none⟩) h.hi).trans (h.c2 i hi), fun i => (hb.frozen (p := ⟨o, i, none⟩) h.hi).trans (h.free i), by omega⟩
theorem RowH.drewN {w : World} {o n : Nat} {F0 : Nat → Int} {F1 : Nat → Int} {F2 : Nat → Int} (h : RowH w o n F0 F1 F2) (q : Nat) : RowH (w.drewN q) o n F0 F1 F2 := ⟨h.c0, h.c1, h.c2, h.free, h.hi⟩
theorem RowH.grown {w w' : World} {o n : Nat} {F0 : Nat → Int} {F1 : Nat → Int} {F2 : Nat → Int} {row : Option Nat} (h : RowH w o n F0 F1 F2) (hb : w.grownBy w' row) (hne : some o ≠ row) : RowH w' o n F0 F1 F2 := by
  have z := hb.size
  have zh := h.hi
  have b := hb.block o zh hne
  exact ⟨fun i hi => (World.cell?_of_block (w := w) (a := ⟨o, i * 3, none⟩) b).trans (h.c0 i hi), fun i hi => (World.cell?_of_block (w := w) (a := ⟨o, i * 3 + 1, none⟩) b).trans (h.c1 i hi), fun i hi => (World.cell?_of_block (w := w) (a := ⟨o, i * 3 + 2, none⟩) b).trans (h.c2 i hi), fun i => (World.frozen?_of_block (w := w) (a := ⟨o, i, none⟩) b).trans (h.free i), by omega⟩
theorem RowH.set0 {w : World} {o n : Nat} {F0 : Nat → Int} {F1 : Nat → Int} {F2 : Nat → Int} (h : RowH w o n F0 F1 F2) (q : Nat) (a : Int) : RowH (w.setCell ⟨o, q * 3, none⟩ (.int .i64 a)) o n (fun i => if i = q then a else F0 i) F1 F2 := by
  refine ⟨fun i hi => ?_, fun i hi => ?_, fun i hi => ?_, fun i => by simp [h.free i], by simpa using h.hi⟩
  · rw [cell_put _ _ _ _ _ _ (h.c0 i hi)]
    by_cases e : i = q
    · subst e; simp
    · rw [if_neg (by omega)]; simp [e]
  · rw [cell_put _ _ _ _ _ _ (h.c1 i hi), if_neg (by omega)]
  · rw [cell_put _ _ _ _ _ _ (h.c2 i hi), if_neg (by omega)]
theorem RowH.set1 {w : World} {o n : Nat} {F0 : Nat → Int} {F1 : Nat → Int} {F2 : Nat → Int} (h : RowH w o n F0 F1 F2) (q : Nat) (a : Int) : RowH (w.setCell ⟨o, q * 3 + 1, none⟩ (.int .i64 a)) o n F0 (fun i => if i = q then a else F1 i) F2 := by
  refine ⟨fun i hi => ?_, fun i hi => ?_, fun i hi => ?_, fun i => by simp [h.free i], by simpa using h.hi⟩
  · rw [cell_put _ _ _ _ _ _ (h.c0 i hi), if_neg (by omega)]
  · rw [cell_put _ _ _ _ _ _ (h.c1 i hi)]
    by_cases e : i = q
    · subst e; simp
    · rw [if_neg (by omega)]; simp [e]
  · rw [cell_put _ _ _ _ _ _ (h.c2 i hi), if_neg (by omega)]
theorem RowH.set2 {w : World} {o n : Nat} {F0 : Nat → Int} {F1 : Nat → Int} {F2 : Nat → Int} (h : RowH w o n F0 F1 F2) (q : Nat) (a : Int) : RowH (w.setCell ⟨o, q * 3 + 2, none⟩ (.int .i64 a)) o n F0 F1 (fun i => if i = q then a else F2 i) := by
  refine ⟨fun i hi => ?_, fun i hi => ?_, fun i hi => ?_, fun i => by simp [h.free i], by simpa using h.hi⟩
  · rw [cell_put _ _ _ _ _ _ (h.c0 i hi), if_neg (by omega)]
  · rw [cell_put _ _ _ _ _ _ (h.c1 i hi), if_neg (by omega)]
  · rw [cell_put _ _ _ _ _ _ (h.c2 i hi)]
    by_cases e : i = q
    · subst e; simp
    · rw [if_neg (by omega)]; simp [e]
/-- A slice of n structs that a call made, or none. -/
def RowHV (w : World) (v : Value) (n : Nat) (F0 : Nat → Int) (F1 : Nat → Int) (F2 : Nat → Int) : Prop := (n = 0 ∧ v = .slice none 0 0) ∨ ∃ o c, v = .slice (some ⟨o, 0, none⟩) n c ∧ RowH w o n F0 F1 F2
theorem RowHV.grown {w w' : World} {v : Value} {n : Nat} {F0 : Nat → Int} {F1 : Nat → Int} {F2 : Nat → Int} {row : Option Nat} (h : RowHV w v n F0 F1 F2) (hb : w.grownBy w' row) (hne : v.ownBlock = none ∨ v.ownBlock ≠ row) : RowHV w' v n F0 F1 F2 := by
  rcases h with h | ⟨o, c, rfl, R⟩
  · exact Or.inl h
  · exact Or.inr ⟨o, c, rfl, R.grown hb (by simpa [Value.ownBlock] using hne)⟩
theorem RowHV.next {w w' : World} {v : Value} {n : Nat} {F0 : Nat → Int} {F1 : Nat → Int} {F2 : Nat → Int} (h : RowHV w v n F0 F1 F2) (hb : Below w.heap.size w w') : RowHV w' v n F0 F1 F2 := h.grown (grown_below hb none) (by cases hv : v.ownBlock <;> simp)
theorem RowHV.is {w : World} {v : Value} {n : Nat} {F0 : Nat → Int} {F1 : Nat → Int} {F2 : Nat → Int} (R : RowHV w v n F0 F1 F2) : ∃ a l c, v = .slice a l c := by
  rcases R with ⟨_, rfl⟩ | ⟨o, c, rfl, _⟩
  · exact ⟨_, _, _, rfl⟩
  · exact ⟨_, _, _, rfl⟩
theorem RowHV.lt {w : World} {v : Value} {n : Nat} {F0 : Nat → Int} {F1 : Nat → Int} {F2 : Nat → Int} (h : RowHV w v n F0 F1 F2) : ∀ g, v.ownBlock = some g → g < w.heap.size := by
  rcases h with ⟨_, rfl⟩ | ⟨o, c, rfl, R⟩
  · intro g hg; simp [Value.ownBlock] at hg
  · intro g hg; simp [Value.ownBlock] at hg; subst hg; exact R.hi
abbrev TupH := Int × Int × Int
def cellsH : List TupH → List Value
  | [] => []
  | t :: r => .int .i64 (t.1) :: .int .i64 (t.2.1) :: .int .i64 (t.2.2) :: cellsH r
theorem cellsH_app : ∀ (l m : List TupH), cellsH (l ++ m) = cellsH l ++ cellsH m
  | [], m => rfl
  | t :: r, m => by simp [cellsH, cellsH_app r m]
def atH0 (l : List TupH) (i : Nat) : Int := (l.getD i (0, 0, 0)).1
def atH1 (l : List TupH) (i : Nat) : Int := (l.getD i (0, 0, 0)).2.1
def atH2 (l : List TupH) (i : Nat) : Int := (l.getD i (0, 0, 0)).2.2
theorem cellsH_at : ∀ (l : List TupH) (i : Nat), i < l.length → (cellsH l)[i * 3]? = some (.int .i64 (atH0 l i)) ∧ (cellsH l)[i * 3 + 1]? = some (.int .i64 (atH1 l i)) ∧ (cellsH l)[i * 3 + 2]? = some (.int .i64 (atH2 l i))
  | [], i, h => by simp at h
  | t :: r, 0, h => ⟨rfl, rfl, rfl⟩
  | t :: r, i + 1, h => by
    have q := cellsH_at r i (by simpa using h)
    rw [cellsH, show (i + 1) * 3 = i * 3 + 1 + 1 + 1 from by omega]
    simpa [atH0, atH1, atH2] using q
theorem rowvH_of {w : World} {B : Nat} {v : Value} {l : List TupH} (h : w.ownsRow B 45 3 v l.length (cellsH l)) : RowHV w v l.length (atH0 l) (atH1 l) (atH2 l) := by
  rcases h.2 with ⟨rfl, h0⟩ | ⟨g, cap, cur, rfl, _⟩
  · exact Or.inl ⟨h0, rfl⟩
  · refine Or.inr ⟨g, cap, rfl, ⟨fun i hi => ?_, fun i hi => ?_, fun i hi => ?_, fun i => h.frozenAt i, (h.lt _ rfl).2⟩⟩
    · rw [h.cellAt (i * 3) (by omega)]; exact (cellsH_at l i hi).1
    · rw [h.cellAt (i * 3 + 1) (by omega)]; exact (cellsH_at l i hi).2.1
    · rw [h.cellAt (i * 3 + 2) (by omega)]; exact (cellsH_at l i hi).2.2
set_option maxRecDepth 100000 in
set_option maxHeartbeats 1000000 in
theorem eqOneH (x0 : Int) (x1 : Int) (x2 : Int) (w : World) : Calls Try.prog 27 #[.agg #[.int .i64 x0, .int .i64 x1, .int .i64 x2], .agg #[.int .i64 x0, .int .i64 x1, .int .i64 x2]] w fun r w' => r = .returned (.bool true) ∧ Below w.heap.size w w' := by
  go_enter Try.func27, Try.ntmps27
  go_wp2
  go_ret
  exact ⟨rfl, by repeat (first | (with_reducible refine Below.setCell ?_ (by first | omega | (simp; try omega)) _) | (with_reducible refine Below.alloc ?_ (by first | omega | (simp; try omega)) _) | (with_reducible exact Below.refl _ _))⟩
set_option maxRecDepth 100000 in
set_option maxHeartbeats 1000000 in
theorem eqRowH {n a b : Nat} {F0 : Nat → Int} {F1 : Nat → Int} {F2 : Nat → Int} {w : World} (X : RowH w a n F0 F1 F2) (Y : RowH w b n F0 F1 F2) (ca cb : Nat) (hn : n ≤ 1048576) :
    Calls Try.prog 43 #[.slice (some ⟨a, 0, none⟩) n ca, .slice (some ⟨b, 0, none⟩) n cb] w fun r w' => r = .returned (.bool true) ∧ Below w.heap.size w w' := by
  go_enter Try.func43, Try.ntmps43
  go_wp2
  go_loopw [5] (fun i wx => ∃ k : Nat, k ≤ n ∧ i = .int .i64 k ∧ Below w.heap.size w wx) (fun i _ => n - (intOf i).toNat)
  case atStart => exact ⟨0, by omega, rfl, Below.refl _ _⟩
  case round =>
    obtain ⟨k, hk, rfl, B⟩ := hrel
    by_cases hkn : k < n
    · have XX := X.next B
      have YY := Y.next B
      have a0 := XX.c0 k hkn
      have b0 := YY.c0 k hkn
      have a1 := XX.c1 k hkn
      have b1 := YY.c1 k hkn
      have a2 := XX.c2 k hkn
      have b2 := YY.c2 k hkn
      have i0 : (0 : Int) ≤ (k : Int) := by omega
      have i1 : (k : Int) < (n : Int) := by omega
      go_wp2
      go_region_with (go_at_call 27; refine (eqOneH (F0 k) (F1 k) (F2 k) _).mono ?_; rintro e w2 ⟨rfl, B2⟩; (have B3 : Below wr.heap.size wr w2 := ⟨B2.os, B2.tape, B2.output, B2.size, B2.block⟩))
      all_goals
        go_wp2
        go_roundw
        case rel => exact ⟨k + 1, by omega, by go_num, B.trans (B3.mono B.size)⟩
        case measure => simp [intOf]; omega
    · have hkk : k = n := by omega
      subst hkk
      go_wp2
      go_ret
      exact ⟨rfl, B⟩
set_option maxRecDepth 100000 in
theorem eqRowH0 (a b : Option Addr) (ca cb : Nat) (w : World) : Calls Try.prog 43 #[.slice a 0 ca, .slice b 0 cb] w fun r w' => r = .returned (.bool true) ∧ Below w.heap.size w w' := by
  go_enter Try.func43, Try.ntmps43
  go_wp2
  refine wp_loop_rounds 1 ?_
  rw [rounds_succ]
  go_wp2
  go_ret
  exact ⟨rfl, Below.refl _ _⟩
theorem eqRowHV {w : World} {u v : Value} {n : Nat} {F0 : Nat → Int} {F1 : Nat → Int} {F2 : Nat → Int} (X : RowHV w u n F0 F1 F2) (Y : RowHV w v n F0 F1 F2) (hn : n ≤ 1048576) :
    Calls Try.prog 43 #[u, v] w fun r w' => r = .returned (.bool true) ∧ Below w.heap.size w w' := by
  rcases X with ⟨rfl, rfl⟩ | ⟨o, c, rfl, X⟩
  · rcases Y with ⟨_, rfl⟩ | ⟨o, c, rfl, Y⟩
    · exact eqRowH0 _ _ _ _ w
    · exact eqRowH0 _ _ _ _ w
  · rcases Y with ⟨h0, rfl⟩ | ⟨o', c', rfl, Y⟩
    · subst h0; exact eqRowH0 _ _ _ _ w
    · exact eqRowH X Y _ _ hn
def mkH0 (i : Nat) : Int := ((1 + 3 * i : Nat) : Int)
def mkH1 (i : Nat) : Int := ((1 + 3 * i + 1 : Nat) : Int)
def mkH2 (i : Nat) : Int := ((1 + 3 * i + 2 : Nat) : Int)
set_option maxHeartbeats 2000000 in
set_option maxRecDepth 100000 in
theorem markH {w : World} {o n : Nat} {F0 : Nat → Int} {F1 : Nat → Int} {F2 : Nat → Int} (R : RowH w o n F0 F1 F2) (c : Nat) (hn : n ≤ 1048576) :
    Calls Try.prog 45 #[.slice (some ⟨o, 0, none⟩) n c, .int .i64 1] w fun r w' => r = .returned (.int .i64 ((1 + 3 * n : Nat) : Int)) ∧ RowH w' o n mkH0 mkH1 mkH2 ∧ Only o w w' := by
  go_enter Try.func45, Try.ntmps45
  go_wp2
  go_loopw [1, 5] (fun l i wr => ∃ k : Nat, k ≤ n ∧ i = .int .i64 k ∧ l = .int .i64 ((1 + 3 * k : Nat) : Int) ∧ RowH wr o n (fun j => if j < k then mkH0 j else F0 j) (fun j => if j < k then mkH1 j else F1 j) (fun j => if j < k then mkH2 j else F2 j) ∧ Only o w wr) (fun _ i _ => n - (intOf i).toNat)
  case atStart => exact ⟨0, by omega, rfl, rfl, R.mono (Nat.le_refl _) (fun j _ => by simp) (fun j _ => by simp) (fun j _ => by simp), Only.refl _ _⟩
  case round =>
    obtain ⟨k, hk, rfl, rfl, RK, OK⟩ := hrel
    by_cases hkn : k < n
    · have i1 : (k : Int) < (n : Int) := by omega
      have i0 : (0 : Int) ≤ (k : Int) := by omega
      obtain ⟨M, hM⟩ : ∃ M : Nat, 1 + 3 * k = M := ⟨_, rfl⟩
      have M0 : M ≤ 3145729 := by omega
      have HM : Hid (1 + 3 * k = M) := hM
      rw [hM]
      have f0 := RK.free (k * 3)
      have g0 : wr.cell? ⟨o, k * 3, none⟩ = some (.int .i64 (F0 k)) := by have := RK.c0 k hkn; simpa using this
      have f1 := RK.free (k * 3 + 1)
      have g1 : wr.cell? ⟨o, k * 3 + 1, none⟩ = some (.int .i64 (F1 k)) := by have := RK.c1 k hkn; simpa using this
      have f2 := RK.free (k * 3 + 2)
      have g2 : wr.cell? ⟨o, k * 3 + 2, none⟩ = some (.int .i64 (F2 k)) := by have := RK.c2 k hkn; simpa using this
      have R0a := RK.set0 k (((M : Nat) : Int))
      have O0a := OK.setCell (k * 3) (.int .i64 (((M : Nat) : Int)))
      have R1a := R0a.set1 k (((M : Nat) : Int) + 1)
      have O1a := O0a.setCell (k * 3 + 1) (.int .i64 (((M : Nat) : Int) + 1))
      have R2a := R1a.set2 k (((M : Nat) : Int) + 1 + 1)
      have O2a := O1a.setCell (k * 3 + 2) (.int .i64 (((M : Nat) : Int) + 1 + 1))
      have HR0 : Hid (_) := R2a
      have HO0 : Hid (_) := O2a
      clear R0a O0a R1a O1a R2a O2a RK OK
      clear hM
      go_wp2
      have hM := HM.out
      have q0 : mkH0 k = ((M : Nat) : Int) := by unfold mkH0; rw [hM]
      have q1 : mkH1 k = ((M : Nat) : Int) + 1 := by unfold mkH1; rw [hM]; omega
      have q2 : mkH2 k = ((M : Nat) : Int) + 1 + 1 := by unfold mkH2; rw [hM]; omega
      refine ⟨⟨k + 1, by omega, by go_num, by congr 1; omega, (HR0.out).mono (Nat.le_refl _) (fun j _ => ?_) (fun j _ => ?_) (fun j _ => ?_), HO0.out⟩, by simp [intOf]; omega⟩
      · rw [← q0]; exact upTo mkH0 F0 k j
      · rw [← q1]; exact upTo mkH1 F1 k j
      · rw [← q2]; exact upTo mkH2 F2 k j
    · have hkk : k = n := by omega
      subst hkk
      go_wp2
      go_ret
      exact ⟨rfl, RK.mono (Nat.le_refl _) (fun j hj => by simp [hj]) (fun j hj => by simp [hj]) (fun j hj => by simp [hj]), OK⟩
set_option maxRecDepth 100000 in
theorem markH0 (a : Option Addr) (c : Nat) (w : World) : Calls Try.prog 45 #[.slice a 0 c, .int .i64 1] w fun r w' => r = .returned (.int .i64 1) ∧ w' = w := by
  go_enter Try.func45, Try.ntmps45
  go_wp2
  refine wp_loop_rounds 1 ?_
  rw [rounds_succ]
  go_wp2
  go_ret
  exact ⟨rfl, rfl⟩
theorem markHV {w : World} {v : Value} {n : Nat} {F0 : Nat → Int} {F1 : Nat → Int} {F2 : Nat → Int} (R : RowHV w v n F0 F1 F2) (hn : n ≤ 1048576) :
    Calls Try.prog 45 #[v, .int .i64 1] w fun r w' => r = .returned (.int .i64 ((1 + 3 * n : Nat) : Int)) ∧ RowHV w' v n mkH0 mkH1 mkH2 ∧ w.grownBy w' v.ownBlock := by
  rcases R with ⟨rfl, rfl⟩ | ⟨o, c, rfl, R⟩
  · exact (markH0 none 0 w).mono fun e w' ⟨h1, h2⟩ => ⟨h1, Or.inl ⟨rfl, rfl⟩, by rw [h2]; exact grown_below (Below.refl _ _) _⟩
  · exact (markH R c hn).mono fun e w' ⟨h1, h2, h3⟩ => ⟨h1, Or.inr ⟨o, c, rfl, h2⟩, ⟨h3.os, h3.tape, h3.output, h3.size, fun k hk hne => h3.block k hk (fun e => hne (by rw [e]; rfl))⟩⟩
set_option maxHeartbeats 2000000 in
set_option maxRecDepth 100000 in
theorem heldH {w : World} {o n : Nat} (R : RowH w o n mkH0 mkH1 mkH2) (c : Nat) (hn : n ≤ 1048576) :
    Calls Try.prog 46 #[.slice (some ⟨o, 0, none⟩) n c, .int .i64 1] w fun r w' => r = .returned (.int .i64 ((1 + 3 * n : Nat) : Int)) ∧ Below w.heap.size w w' := by
  go_enter Try.func46, Try.ntmps46
  go_wp2
  go_loopw [1, 5] (fun l i wx => ∃ k : Nat, k ≤ n ∧ i = .int .i64 k ∧ l = .int .i64 ((1 + 3 * k : Nat) : Int) ∧ Below w.heap.size w wx) (fun _ i _ => n - (intOf i).toNat)
  case atStart => exact ⟨0, by omega, rfl, rfl, Below.refl _ _⟩
  case round =>
    obtain ⟨k, hk, rfl, rfl, B⟩ := hrel
    by_cases hkn : k < n
    · have i1 : (k : Int) < (n : Int) := by omega
      have i0 : (0 : Int) ≤ (k : Int) := by omega
      obtain ⟨M, hM⟩ : ∃ M : Nat, 1 + 3 * k = M := ⟨_, rfl⟩
      have M0 : M ≤ 3145729 := by omega
      have RR := R.next B
      have HR : Hid (∀ w2, Below wr.heap.size wr w2 → w2.cell? ⟨o, k * 3, none⟩ = some (.int .i64 (((M : Nat) : Int))) ∧ w2.cell? ⟨o, k * 3 + 1, none⟩ = some (.int .i64 (((M : Nat) : Int) + 1)) ∧ w2.cell? ⟨o, k * 3 + 2, none⟩ = some (.int .i64 (((M : Nat) : Int) + 1 + 1))) := fun w2 B2 => ⟨by rw [(RR.next B2).c0 k hkn, mkH0, hM]; try congr 2, by rw [(RR.next B2).c1 k hkn, mkH1, hM]; try congr 2, by rw [(RR.next B2).c2 k hkn, mkH2, hM]; try congr 2⟩
      obtain ⟨c0, c1, c2⟩ := HR.out wr (Below.refl _ _)
      have HM : Hid (1 + 3 * k = M) := hM
      rw [hM]
      have HB0 : Hid (Below w.heap.size w wr) := B
      have Bz : Below wr.heap.size wr wr := Below.refl _ _
      clear hM RR R 
      go_wp2
      have hM := HM.out
      exact ⟨⟨k + 1, by omega, by go_num, by congr 1; omega, HB0.out.trans (Bz.mono HB0.out.size)⟩, by simp [intOf]; omega⟩
    · have hkk : k = n := by omega
      subst hkk
      go_wp2
      go_ret
      exact ⟨rfl, B⟩
set_option maxRecDepth 100000 in
theorem heldH0 (a : Option Addr) (c : Nat) (w : World) : Calls Try.prog 46 #[.slice a 0 c, .int .i64 1] w fun r w' => r = .returned (.int .i64 1) ∧ w' = w := by
  go_enter Try.func46, Try.ntmps46
  go_wp2
  refine wp_loop_rounds 1 ?_
  rw [rounds_succ]
  go_wp2
  go_ret
  exact ⟨rfl, rfl⟩
theorem heldHV {w : World} {v : Value} {n : Nat} (R : RowHV w v n mkH0 mkH1 mkH2) (hn : n ≤ 1048576) :
    Calls Try.prog 46 #[v, .int .i64 1] w fun r w' => r = .returned (.int .i64 ((1 + 3 * n : Nat) : Int)) ∧ Below w.heap.size w w' := by
  rcases R with ⟨rfl, rfl⟩ | ⟨o, c, rfl, R⟩
  · exact (heldH0 none 0 w).mono fun e w' ⟨h1, h2⟩ => ⟨h1, by rw [h2]; exact Below.refl _ _⟩
  · exact heldH R c hn
structure C3 (w : World) (b : Nat) (v0 v1 v2 : Value) : Prop where
  c0 : w.cell? ⟨b, 0, none⟩ = some v0
  c1 : w.cell? ⟨b, 1, none⟩ = some v1
  c2 : w.cell? ⟨b, 2, none⟩ = some v2
  f : ∀ i, w.frozen? ⟨b, i, none⟩ = false
  hi : b < w.heap.size
theorem C3.new (w : World) (t : TypeId) (v0 v1 v2 : Value) : C3 (w.alloc (.cells #[v0, v1, v2] t)) w.heap.size v0 v1 v2 := ⟨by simp, by simp, by simp, fun i => by simp, by simp⟩
theorem C3.next {w w' : World} {b : Nat} {v0 v1 v2 : Value} (h : C3 w b v0 v1 v2) (k : Below w.heap.size w w') : C3 w' b v0 v1 v2 := ⟨cell_nx h.c0 k, cell_nx h.c1 k, cell_nx h.c2 k, fun i => (k.frozen (p := ⟨b, i, none⟩) h.hi).trans (h.f i), by have := k.size; have := h.hi; omega⟩
theorem cellsH_one : ∀ (l : List TupH) q, q ∈ cellsH l → q.oneCell' = true := by
  intro l
  induction l with
  | nil => intro q hq; cases hq
  | cons t r ih =>
    intro q hq
    simp only [cellsH, List.mem_cons] at hq
    rcases hq with rfl | rfl | rfl | hq
    · rfl
    · rfl
    · rfl
    · exact ih q hq
theorem cellsH_len : ∀ l : List TupH, (cellsH l).length = l.length * 3
  | [] => rfl
  | t :: r => by rw [cellsH]; simp [cellsH_len r]; omega
/-- A row of hits of one's own, from block B on. -/
def HR (B : Nat) (w : World) (v : Value) (L : List TupH) : Prop := w.ownsRow B 45 3 v L.length (cellsH L) ∧ B ≤ w.heap.size
theorem HR.nil (B : Nat) (w : World) (h : B ≤ w.heap.size) : HR B w (.slice none 0 0) [] := ⟨World.ownsRow_nil _ _ _ _, h⟩
theorem HR.lt {B : Nat} {w : World} {v : Value} {L : List TupH} (h : HR B w v L) : ∀ g, v.ownBlock = some g → B ≤ g ∧ g < w.heap.size := fun g hg => h.1.lt g hg
theorem HR.next {B : Nat} {w w' : World} {v : Value} {L : List TupH} (h : HR B w v L) (b : Below w.heap.size w w') : HR B w' v L := ⟨h.1.kept (grown_below b none) (by cases hv : v.ownBlock <;> simp), Nat.le_trans h.2 b.size⟩
theorem HR.kept {B : Nat} {w w' : World} {v : Value} {L : List TupH} {row : Option Nat} (h : HR B w v L) (k : w.grownBy w' row) (hne : v.ownBlock = none ∨ v.ownBlock ≠ row) : HR B w' v L := ⟨h.1.kept k hne, Nat.le_trans h.2 k.size⟩
theorem HR.low {B C : Nat} {w : World} {v : Value} {L : List TupH} (h : HR B w v L) (hc : C ≤ B) : HR C w v L := by
  refine ⟨⟨h.1.1, ?_⟩, Nat.le_trans hc h.2⟩
  rcases h.1.2 with h0 | ⟨g, cap, cur, h1, h2, h3⟩
  · exact Or.inl h0
  · exact Or.inr ⟨g, cap, cur, h1, Nat.le_trans hc h2, h3⟩
theorem HR.rowv {B : Nat} {w : World} {v : Value} {L : List TupH} (h : HR B w v L) : RowHV w v L.length (atH0 L) (atH1 L) (atH2 L) := rowvH_of h.1
theorem HR.form {B : Nat} {w : World} {v : Value} {L : List TupH} (h : HR B w v L) : (L = [] ∧ v = .slice none 0 0) ∨ ∃ g c, v = .slice (some ⟨g, 0, none⟩) L.length c ∧ L.length ≤ c ∧ c ≤ maxLen ∧ B ≤ g ∧ g < w.heap.size ∧ ∀ j, j < L.length * 3 → w.cell? ⟨g, j, none⟩ = (cellsH L)[j]? := by
  rcases h.1.2 with ⟨h1, h2⟩ | ⟨g, cap, cur, h1, h2, h3, h4, h5, h6⟩
  · exact Or.inl ⟨List.length_eq_zero_iff.1 h2, h1⟩
  · have hb := h.1.lt g (by rw [h1]; rfl)
    subst h1
    exact Or.inr ⟨g, cap, rfl, h4, h5, h2, hb.2, fun j hj => h.1.cellAt j (by omega)⟩
/-- Hits that lie one behind the other from an address on; of none nothing is asked. -/
def Src (w : World) (a : Option Addr) (M : List TupH) : Prop := M = [] ∨ ∃ g o, a = some ⟨g, o, none⟩ ∧ ∀ j, j < M.length * 3 → w.cell? ⟨g, o + j, none⟩ = (cellsH M)[j]?
theorem infoHt : (Try.prog.info? 45).map (fun i => (i.zero, i.size, i.bytes)) = some (some (.agg #[.int .i64 0, .int .i64 0, .int .i64 0]), 3, 24) := by kernel_rfl
theorem run_append_no {P : Program} (w : World) (t ty e : TypeId) (i : TypeInfo) (ht : P.underlying t = some (.slice e)) (hi : P.info? e = some i) (a b : Option Addr) (n cap c : Nat) (h : n ≤ cap) : (Builtin.append_ #[t, t] ty #[.slice a n cap, .slice b 0 c]).run P w = .ok (.slice a n cap) w := by
  cases a <;> cases b <;> simp [Builtin.append_, run_underlying ht, sizeOf, typeInfo, hi, Builtin.lenOf, h, Builtin.firstCells, storeCells, loadCells, loadCellsFrom]
theorem run_append_hits {w : World} {ty : TypeId} {B c : Nat} {v : Value} {a : Option Addr} {L M : List TupH} (R : HR B w v L) (Y : Src w a M) (hl : L.length + M.length < 1000000) :
    ∃ v' w', (Builtin.append_ #[68, 68] ty #[v, .slice a M.length c]).run Try.prog w = .ok v' w' ∧ HR B w' v' (L ++ M) ∧ w.grownBy w' v.ownBlock := by
  obtain ⟨i0, hi, hz0, hz1, hz2⟩ := info_parts infoHt
  by_cases hM : M = []
  · subst hM
    rw [List.append_nil]
    rcases R.form with ⟨rfl, rfl⟩ | ⟨g, cp, rfl, h1, _⟩
    · exact ⟨_, w, run_append_no w 68 ty 45 i0 Try.underlying68 hi none a 0 0 c (Nat.le_refl _), R, grown_below (Below.refl _ _) _⟩
    · exact ⟨_, w, run_append_no w 68 ty 45 i0 Try.underlying68 hi _ a _ _ c h1, R, grown_below (Below.refl _ _) _⟩
  · rcases Y with h0 | ⟨g, o, rfl, hc⟩
    · exact absurd h0 hM
    obtain ⟨v', w', h1, h2, h3, -, -⟩ := run_append_own_at (P := Try.prog) w B 68 ty 45 i0 (.agg #[.int .i64 0, .int .i64 0, .int .i64 0]) 3 24 Try.underlying68 hi hz0 hz1 hz2 rfl (by decide) v L.length (cellsH L) R.1 ⟨g, o, none⟩ M.length c (cellsH M) (cellsH_len M)
      (fun j q hj => by
        have hlt : j < M.length * 3 := by rw [← cellsH_len]; exact (List.getElem?_eq_some_iff.1 hj).1
        rw [add_plain, hc j hlt, hj])
      (cellsH_one M) (by unfold maxLen; omega) (by omega) R.2
    exact ⟨v', w', h1, ⟨by rw [List.length_append, cellsH_app]; exact h2, Nat.le_trans R.2 h3.size⟩, h3⟩
theorem wpList_append_hits {ops : Array Oper} {rest : List Oper} {o : Oper} {a : Act} {Q : Exit → Act → World → Prop} {w : World} (hgd : o.guard = none) (s x : Operand) (ho : o.op = .call { callee := .builtin .append, args := #[s, x], argTypes := #[68, 68] })
    {B c m : Nat} {v : Value} {ad : Option Addr} {L M : List TupH} (hs : a.eval s = v) (hm : M.length = m) (hx : a.eval x = .slice ad m c) (R : HR B w v L) (Y : Src w ad M) (hl : L.length + M.length < 1000000)
    (h : ∀ v' w', HR B w' v' (L ++ M) → w.grownBy w' v.ownBlock → wpList Try.prog ops Q rest (a.put o.dst v') w') : wpList Try.prog ops Q (o :: rest) a w := by
  subst hm
  obtain ⟨v', w', h1, h2, h3⟩ := run_append_hits (ty := o.type) (c := c) R Y hl
  refine wpList_plain hgd fun K hK => ?_
  unfold Oper.wp execOp
  simp only [ho, resolve, invoke, builtin, Sem.run_bind, Sem.run_pure, Result.andThen_ok, List.map_toArray, List.map_cons, List.map_nil, hs, hx, h1]
  exact hK _ _ (h v' w' h2 h3)
theorem src_c3 {w : World} {b : Nat} {x y z : Int} (h : C3 w b (.int .i64 x) (.int .i64 y) (.int .i64 z)) : Src w (some ⟨b, 0, none⟩) [(x, y, z)] := by
  refine Or.inr ⟨b, 0, rfl, fun j hj => ?_⟩
  match j, hj with
  | 0, _ => exact h.c0
  | 1, _ => exact h.c1
  | 2, _ => exact h.c2
theorem cellsH_drop : ∀ (L : List TupH) (k j : Nat), (cellsH (L.drop k))[j]? = (cellsH L)[k * 3 + j]?
  | L, 0, j => by simp
  | [], k + 1, j => by simp [cellsH]
  | t :: r, k + 1, j => by
    rw [List.drop_succ_cons, cellsH_drop r k j, cellsH, show (k + 1) * 3 + j = k * 3 + j + 1 + 1 + 1 from by omega]
    simp
theorem cellsH_take : ∀ (L : List TupH) (k j : Nat), j < k * 3 → (cellsH (L.take k))[j]? = (cellsH L)[j]?
  | L, 0, j, h => by omega
  | [], k + 1, j, h => by simp [cellsH]
  | t :: r, k + 1, j, h => by
    rw [List.take_succ_cons, cellsH, cellsH]
    match j with
    | 0 => rfl
    | 1 => rfl
    | 2 => rfl
    | j + 3 => simpa using cellsH_take r k j (by omega)
end Go.Proofs.Ytngmaeinehfimaa
