/- Rows of fields (two texts and a whole number each): what a call made, what came in; copies, comparisons and sizes of them (toFieldS, eqFieldS, szFieldS); conditions: the row stands in memory, at most 2^20 long. -/
import Derived.Test.YteakeaclpcgopaaKind
import Derived.Test.YteakeaclpcgopaaNames
import Derived.Deep.RegionHeld3
import Derived.BigQuiet
namespace Go.Proofs.Yteakeaclpcgopaa
open Go.ChangeShapes Go.WideShapes Go.ChangeAt Go.RowKit
set_option linter.unusedVariables false
open Tk (below_drewN)
/-- n nodes of block o, from its head on; each may be written. -/
structure Row3 (w : World) (o n : Nat) (K T : Nat → ByteArray) (J : Nat → Int) : Prop where
  k : ∀ i, i < n → w.cell? ⟨o, i * 3, none⟩ = some (.string (K i))
  t : ∀ i, i < n → w.cell? ⟨o, i * 3 + 1, none⟩ = some (.string (T i))
  j : ∀ i, i < n → w.cell? ⟨o, i * 3 + 2, none⟩ = some (.int .i64 (J i))
  free : ∀ i, w.frozen? ⟨o, i, none⟩ = false
  hi : o < w.heap.size
theorem Row3.mono {w : World} {o n m : Nat} {K K' T T' : Nat → ByteArray} {J J' : Nat → Int} (h : Row3 w o n K T J) (hm : m ≤ n) (hK : ∀ i, i < m → K' i = K i) (hT : ∀ i, i < m → T' i = T i) (hJ : ∀ i, i < m → J' i = J i) : Row3 w o m K' T' J' :=
  ⟨fun i hi => by rw [hK i hi]; exact h.k i (by omega), fun i hi => by rw [hT i hi]; exact h.t i (by omega), fun i hi => by rw [hJ i hi]; exact h.j i (by omega), h.free, h.hi⟩
theorem Row3.set {w : World} {o n : Nat} {K K' T T' : Nat → ByteArray} {J J' : Nat → Int} (h : Row3 w o n K T J) (q : Nat) (a b : ByteArray) (c : Int) (hq : q < n) (hK : ∀ i, i < n → K' i = if i = q then a else K i) (hT : ∀ i, i < n → T' i = if i = q then b else T i) (hJ : ∀ i, i < n → J' i = if i = q then c else J i) :
    Row3 (((w.setCell ⟨o, q * 3, none⟩ (.string a)).setCell ⟨o, q * 3 + 1, none⟩ (.string b)).setCell ⟨o, q * 3 + 2, none⟩ (.int .i64 c)) o n K' T' J' := by
  refine ⟨fun i hi => ?_, fun i hi => ?_, fun i hi => ?_, fun i => by simp [h.free i], by simpa using h.hi⟩
  · rw [cell_put _ _ _ _ _ _ (cell_put _ _ _ _ _ _ (cell_put _ _ _ _ _ _ (h.k i hi))), hK i hi]
    by_cases e : i = q
    · subst e; simp
    · rw [if_neg (by omega), if_neg (by omega), if_neg (by omega), if_neg e]
  · rw [cell_put _ _ _ _ _ _ (cell_put _ _ _ _ _ _ (cell_put _ _ _ _ _ _ (h.t i hi))), hT i hi]
    by_cases e : i = q
    · subst e; simp
    · rw [if_neg (by omega), if_neg (by omega), if_neg (by omega), if_neg e]
  · rw [cell_put _ _ _ _ _ _ (cell_put _ _ _ _ _ _ (cell_put _ _ _ _ _ _ (h.j i hi))), hJ i hi]
    by_cases e : i = q
    · subst e; simp
    · rw [if_neg (by omega), if_neg (by omega), if_neg (by omega), if_neg e]
theorem Row3.next {w w' : World} {o n : Nat} {K T : Nat → ByteArray} {J : Nat → Int} (h : Row3 w o n K T J) (hb : Below w.heap.size w w') : Row3 w' o n K T J := by
  have z := hb.size
  have zh := h.hi
  exact ⟨fun i hi => (hb.cell (p := ⟨o, i * 3, none⟩) h.hi).trans (h.k i hi), fun i hi => (hb.cell (p := ⟨o, i * 3 + 1, none⟩) h.hi).trans (h.t i hi), fun i hi => (hb.cell (p := ⟨o, i * 3 + 2, none⟩) h.hi).trans (h.j i hi), fun i => (hb.frozen (p := ⟨o, i, none⟩) h.hi).trans (h.free i), by omega⟩
theorem Row3.drewN {w : World} {o n : Nat} {K T : Nat → ByteArray} {J : Nat → Int} (h : Row3 w o n K T J) (q : Nat) : Row3 (w.drewN q) o n K T J := ⟨h.k, h.t, h.j, h.free, h.hi⟩
/-- A slice of nodes that came in; of an empty one nothing is asked. -/
def Arg3 (w : World) (a : Option Addr) (n : Nat) (K T : Nat → ByteArray) (J : Nat → Int) : Prop := n = 0 ∨ ∃ b off, a = some ⟨b, off, none⟩ ∧ b < w.heap.size ∧ ∀ i, i < n → w.cell? ⟨b, off + i * 3, none⟩ = some (.string (K i)) ∧ w.cell? ⟨b, off + i * 3 + 1, none⟩ = some (.string (T i)) ∧ w.cell? ⟨b, off + i * 3 + 2, none⟩ = some (.int .i64 (J i))
theorem Arg3.next {w w' : World} {a : Option Addr} {n : Nat} {K T : Nat → ByteArray} {J : Nat → Int} (h : Arg3 w a n K T J) (hb : Below w.heap.size w w') : Arg3 w' a n K T J := by
  rcases h with h | ⟨b, off, ha, hl, hc⟩
  · exact Or.inl h
  · exact Or.inr ⟨b, off, ha, by have := hb.size; omega, fun i hi => ⟨(hb.cell (p := ⟨b, off + i * 3, none⟩) hl).trans (hc i hi).1, (hb.cell (p := ⟨b, off + i * 3 + 1, none⟩) hl).trans (hc i hi).2.1, (hb.cell (p := ⟨b, off + i * 3 + 2, none⟩) hl).trans (hc i hi).2.2⟩⟩
set_option maxRecDepth 100000 in
set_option maxHeartbeats 1000000 in
theorem toNode (k t : ByteArray) (j : Int) (w : World) : Calls Try.prog 39 #[.agg #[.string k, .string t, .int .i64 j]] w fun r w' => r = .returned (.agg #[.string k, .string t, .int .i64 j]) ∧ Below w.heap.size w w' := by
  go_enter Try.func39, Try.ntmps39
  go_wp2
  exact bodyPost_ret (v := .agg #[.string k, .string t, .int .i64 j]) (by simp [results, Try.results39, go_sem]) rfl ⟨rfl, by repeat (first | (with_reducible refine Below.setCell ?_ (by first | omega | (simp; try omega)) _) | (with_reducible refine Below.alloc ?_ (by first | omega | (simp; try omega)) _) | (with_reducible exact Below.refl _ _))⟩
theorem row_made {w : World} {B n t : Nat} {w' : World} (h : w'.ownsRow B t 3 (.slice (some ⟨w.heap.size, 0, none⟩) n n) n (madeCells #[.string ⟨#[]⟩, .string ⟨#[]⟩, .int .i64 0] (n * 3)).toList) : Row3 w' w.heap.size n (fun _ => ⟨#[]⟩) (fun _ => ⟨#[]⟩) (fun _ => 0) := by
  refine ⟨fun i hi => ?_, fun i hi => ?_, fun i hi => ?_, fun i => h.frozenAt i, (h.lt _ rfl).2⟩
  · rw [h.cellAt (i * 3) (by omega)]
    have e : i * 3 % 3 = 0 := by omega
    simp [madeCells, show i * 3 < n * 3 by omega, e]
  · rw [h.cellAt (i * 3 + 1) (by omega)]
    have e : (i * 3 + 1) % 3 = 1 := by omega
    simp [madeCells, show i * 3 + 1 < n * 3 by omega, e]
  · rw [h.cellAt (i * 3 + 2) (by omega)]
    have e : (i * 3 + 2) % 3 = 2 := by omega
    simp [madeCells, show i * 3 + 2 < n * 3 by omega, e]
theorem info61 : (Try.prog.info? 61).map (fun i => (i.zero, i.size, i.bytes)) = some (some (.agg #[.string ⟨#[]⟩, .string ⟨#[]⟩, .int .i64 0]), 3, 40) := by kernel_rfl
set_option maxRecDepth 100000 in
set_option maxHeartbeats 1000000 in
theorem toN (n b off cap : Nat) (K T : Nat → ByteArray) (J : Nat → Int) (w : World) (hn : n ≤ 1048576) (hb : b < w.heap.size) (hc : ∀ i, i < n → w.cell? ⟨b, off + i * 3, none⟩ = some (.string (K i)) ∧ w.cell? ⟨b, off + i * 3 + 1, none⟩ = some (.string (T i)) ∧ w.cell? ⟨b, off + i * 3 + 2, none⟩ = some (.int .i64 (J i))) :
    Calls Try.prog 11 #[.slice (some ⟨b, off, none⟩) n cap] w fun r w' => r = .returned (.slice (some ⟨w.heap.size, 0, none⟩) n n) ∧ Row3 w' w.heap.size n K T J ∧ Below w.heap.size w w' := by
  obtain ⟨i0, hi, hz0, hz1, hz2⟩ := info_parts info61
  go_enter Try.func11, Try.ntmps11
  go_wp2_with (at_make; refine wpList_make_full _ rfl _ _ 25 rfl w.heap.size 61 i0 (.agg #[.string ⟨#[]⟩, .string ⟨#[]⟩, .int .i64 0]) 3 Try.underlying25 hi hz0 hz1 _ _ _ _ n rfl rfl (by first | rfl | omega) (by first | rfl | omega) (by rw [hz2]; omega) (by unfold maxLen; omega) (Nat.le_refl _) ?_; intro w1 hown hgrow)
  have O1 : Row3 w1 w.heap.size n (fun _ => ⟨#[]⟩) (fun _ => ⟨#[]⟩) (fun _ => 0) := row_made hown
  have B1 : Below w.heap.size w w1 := (Below.refl _ _).grown hgrow (Nat.le_refl _) (by simp)
  clear hown hgrow hi hz0 hz1 hz2
  go_loopw [4] (fun i wr => ∃ k : Nat, k ≤ n ∧ i = .int .i64 k ∧ Row3 wr w.heap.size n (fun j => if j < k then K j else ⟨#[]⟩) (fun j => if j < k then T j else ⟨#[]⟩) (fun j => if j < k then J j else 0) ∧ Below w.heap.size w wr) (fun i _ => n - (intOf i).toNat)
  case atStart => exact ⟨0, by omega, rfl, O1.mono (Nat.le_refl _) (fun j _ => by simp) (fun j _ => by simp) (fun j _ => by simp), B1⟩
  case round =>
    obtain ⟨k, hk, rfl, OK, BK⟩ := hrel
    by_cases hkn : k < n
    · have i1 : (k : Int) < (n : Int) := by omega
      have i0 : (0 : Int) ≤ (k : Int) := by omega
      have c0 : wr.cell? ⟨b, off + k * 3, none⟩ = some (.string (K k)) := (BK.cell (p := ⟨b, off + k * 3, none⟩) hb).trans (hc k hkn).1
      have c1 : wr.cell? ⟨b, off + k * 3 + 1, none⟩ = some (.string (T k)) := (BK.cell (p := ⟨b, off + k * 3 + 1, none⟩) hb).trans (hc k hkn).2.1
      have c2 : wr.cell? ⟨b, off + k * 3 + 2, none⟩ = some (.int .i64 (J k)) := (BK.cell (p := ⟨b, off + k * 3 + 2, none⟩) hb).trans (hc k hkn).2.2
      go_wp2_with (go_at_call 39; refine (toNode (K k) (T k) (J k) _).mono ?_; rintro e w2 ⟨rfl, B2⟩; have O2 := OK.next B2; have f0 := O2.free (k * 3); have f1 := O2.free (k * 3 + 1); have f2 := O2.free (k * 3 + 2); (have g0 : w2.cell? ⟨w.heap.size, k * 3, none⟩ = some (.string ⟨#[]⟩) := by have := O2.k k hkn; simpa using this); (have g1 : w2.cell? ⟨w.heap.size, k * 3 + 1, none⟩ = some (.string ⟨#[]⟩) := by have := O2.t k hkn; simpa using this); (have g2 : w2.cell? ⟨w.heap.size, k * 3 + 2, none⟩ = some (.int .i64 0) := by have := O2.j k hkn; simpa using this))
      go_roundw
      case rel =>
        have up : ∀ {α : Type} (f : Nat → α) (z : α) (j : Nat), (if j < k + 1 then f j else z) = if j = k then f k else if j < k then f j else z := by
          intro α f z j
          by_cases e1 : j = k
          · subst e1; simp
          · rw [if_neg e1]; by_cases e2 : j < k
            · rw [if_pos e2, if_pos (by omega)]
            · rw [if_neg e2, if_neg (by omega)]
        have Bs := BK.trans (B2.mono BK.size)
        exact ⟨k + 1, by omega, by go_num, O2.set k _ _ _ hkn (fun j _ => up K ⟨#[]⟩ j) (fun j _ => up T ⟨#[]⟩ j) (fun j _ => up J 0 j), ((Bs.setCell (Nat.le_refl _) _).setCell (Nat.le_refl _) _).setCell (Nat.le_refl _) _⟩
      case measure => simp [intOf]; omega
    · have hkk : k = n := by omega
      subst hkk
      go_wp2
      go_ret
      exact ⟨rfl, OK.mono (Nat.le_refl _) (fun j hj => by simp [hj]) (fun j hj => by simp [hj]) (fun j hj => by simp [hj]), BK⟩
set_option maxRecDepth 100000 in
theorem toN0 (a : Option Addr) (cap : Nat) (K T : Nat → ByteArray) (J : Nat → Int) (w : World) :
    Calls Try.prog 11 #[.slice a 0 cap] w fun r w' => r = .returned (.slice (some ⟨w.heap.size, 0, none⟩) 0 0) ∧ Row3 w' w.heap.size 0 K T J ∧ Below w.heap.size w w' := by
  obtain ⟨i0, hi, hz0, hz1, hz2⟩ := info_parts info61
  go_enter Try.func11, Try.ntmps11
  go_wp2_with (at_make; refine wpList_make_full _ rfl _ _ 25 rfl w.heap.size 61 i0 (.agg #[.string ⟨#[]⟩, .string ⟨#[]⟩, .int .i64 0]) 3 Try.underlying25 hi hz0 hz1 _ _ _ _ 0 rfl rfl (by first | rfl | omega) (by first | rfl | omega) (by rw [hz2]; omega) (by unfold maxLen; omega) (Nat.le_refl _) ?_; intro w1 hown hgrow)
  have O1 : Row3 w1 w.heap.size 0 (fun _ => ⟨#[]⟩) (fun _ => ⟨#[]⟩) (fun _ => 0) := row_made hown
  have B1 : Below w.heap.size w w1 := (Below.refl _ _).grown hgrow (Nat.le_refl _) (by simp)
  clear hown hgrow hi hz0 hz1 hz2
  refine wp_loop_rounds 1 ?_
  rw [rounds_succ]
  go_wp2
  go_ret
  exact ⟨rfl, O1.mono (Nat.le_refl _) (fun j hj => by omega) (fun j hj => by omega) (fun j hj => by omega), B1⟩
theorem argN {w : World} {a : Option Addr} {n : Nat} {K T : Nat → ByteArray} {J : Nat → Int} (h : Arg3 w a n K T J) (cap : Nat) (hn : n ≤ 1048576) :
    Calls Try.prog 11 #[.slice a n cap] w fun r w' => r = .returned (.slice (some ⟨w.heap.size, 0, none⟩) n n) ∧ Row3 w' w.heap.size n K T J ∧ Below w.heap.size w w' := by
  rcases h with rfl | ⟨b, off, rfl, hl, hc⟩
  · exact toN0 a cap K T J w
  · exact toN n b off cap K T J w hn hl hc
set_option maxRecDepth 100000 in
set_option maxHeartbeats 1000000 in
theorem eqNode (k t : ByteArray) (j : Int) (w : World) : Calls Try.prog 42 #[.agg #[.string k, .string t, .int .i64 j], .agg #[.string k, .string t, .int .i64 j]] w fun r w' => r = .returned (.bool true) ∧ Below w.heap.size w w' := by
  have e : (t.toList == t.toList) = true := by simp
  have e0 : (k.toList == k.toList) = true := by simp
  go_enter Try.func42, Try.ntmps42
  go_wp2
  go_ret
  exact ⟨rfl, by repeat (first | (with_reducible refine Below.setCell ?_ (by first | omega | (simp; try omega)) _) | (with_reducible refine Below.alloc ?_ (by first | omega | (simp; try omega)) _) | (with_reducible exact Below.refl _ _))⟩
set_option maxRecDepth 100000 in
set_option maxHeartbeats 1000000 in
theorem eqN {n a b : Nat} {K T : Nat → ByteArray} {J : Nat → Int} {w : World} (X : Row3 w a n K T J) (Y : Row3 w b n K T J) (ca cb : Nat) (hn : n ≤ 1048576) :
    Calls Try.prog 13 #[.slice (some ⟨a, 0, none⟩) n ca, .slice (some ⟨b, 0, none⟩) n cb] w fun r w' => r = .returned (.bool true) ∧ Below w.heap.size w w' := by
  go_enter Try.func13, Try.ntmps13
  go_wp2
  go_loopw [5] (fun i wx => ∃ k : Nat, k ≤ n ∧ i = .int .i64 k ∧ Below w.heap.size w wx) (fun i _ => n - (intOf i).toNat)
  case atStart => exact ⟨0, by omega, rfl, Below.refl _ _⟩
  case round =>
    obtain ⟨k, hk, rfl, B⟩ := hrel
    by_cases hkn : k < n
    · have XX := X.next B
      have YY := Y.next B
      have a0 := XX.k k hkn
      have a1 := XX.t k hkn
      have a2 := XX.j k hkn
      have b0 := YY.k k hkn
      have b1 := YY.t k hkn
      have b2 := YY.j k hkn
      have i0 : (0 : Int) ≤ (k : Int) := by omega
      have i1 : (k : Int) < (n : Int) := by omega
      go_wp2
      go_region_with (go_at_call 42; refine (eqNode (K k) (T k) (J k) _).mono ?_; rintro e w2 ⟨rfl, B2⟩; (have B3 : Below wr.heap.size wr w2 := ⟨B2.os, B2.tape, B2.output, B2.size, B2.block⟩))
      all_goals
        go_wp2
        go_roundw
        case rel => exact ⟨k + 1, by omega, by go_num, B.trans (B3.mono B.size)⟩
        case measure => simp [intOf]; omega
    · have hkk : k = n := by omega
      subst hkk
      go_wp2
      go_ret
      exact ⟨rfl, B⟩
set_option maxRecDepth 100000 in
set_option maxHeartbeats 1000000 in
theorem szNode (k t : ByteArray) (j l : Int) (w : World) (l0 : 0 ≤ l) (l1 : l ≤ 1048576) (hk : k.size ≤ 9223372036854775807) (ht : t.size ≤ 9223372036854775807) : Calls Try.prog 37 #[.agg #[.string k, .string t, .int .i64 j], .int .i64 l] w fun r w' => (∃ z : Int, r = .returned (.int .i64 z) ∧ (z = -1 ∨ 0 ≤ z ∧ z = l - (k.size : Int) - (t.size : Int))) ∧ Below w.heap.size w w' := by
  by_cases h0 : l - (k.size : Int) < 0
  · go_enter Try.func37, Try.ntmps37
    go_wp2
    go_ret
    exact ⟨⟨-1, rfl, Or.inl rfl⟩, by repeat (first | (with_reducible refine Below.setCell ?_ (by first | omega | (simp; try omega)) _) | (with_reducible refine Below.alloc ?_ (by first | omega | (simp; try omega)) _) | (with_reducible exact Below.refl _ _))⟩
  have h0' : 0 ≤ l - (k.size : Int) := by omega
  by_cases h : l - (k.size : Int) - (t.size : Int) < 0
  · go_enter Try.func37, Try.ntmps37
    go_wp2
    go_ret
    exact ⟨⟨-1, rfl, Or.inl rfl⟩, by repeat (first | (with_reducible refine Below.setCell ?_ (by first | omega | (simp; try omega)) _) | (with_reducible refine Below.alloc ?_ (by first | omega | (simp; try omega)) _) | (with_reducible exact Below.refl _ _))⟩
  · have h' : 0 ≤ l - (k.size : Int) - (t.size : Int) := by omega
    go_enter Try.func37, Try.ntmps37
    go_wp2
    go_ret
    exact ⟨⟨_, rfl, Or.inr ⟨h', rfl⟩⟩, by repeat (first | (with_reducible refine Below.setCell ?_ (by first | omega | (simp; try omega)) _) | (with_reducible refine Below.alloc ?_ (by first | omega | (simp; try omega)) _) | (with_reducible exact Below.refl _ _))⟩
set_option maxRecDepth 100000 in
set_option maxHeartbeats 1000000 in
theorem szN (n b off cap : Nat) (K T : Nat → ByteArray) (J : Nat → Int) (w : World) (hn : n ≤ 9223372036854775807) (hK : ∀ i, (K i).size ≤ 9223372036854775807) (hT : ∀ i, (T i).size ≤ 9223372036854775807) (hb : b < w.heap.size) (hc : ∀ i, i < n → w.cell? ⟨b, off + i * 3, none⟩ = some (.string (K i)) ∧ w.cell? ⟨b, off + i * 3 + 1, none⟩ = some (.string (T i)) ∧ w.cell? ⟨b, off + i * 3 + 2, none⟩ = some (.int .i64 (J i))) :
    Calls Try.prog 9 #[.slice (some ⟨b, off, none⟩) n cap, .int .i64 1048576] w fun r w' => (∃ z : Int, r = .returned (.int .i64 z) ∧ (z < 0 ∨ 0 ≤ z ∧ z ≤ 1048576 ∧ n ≤ 1048576 ∧ ∀ i, i < n → (K i).size ≤ 1048576 ∧ (T i).size ≤ 1048576)) ∧ Below w.heap.size w w' := by
  by_cases big : 1048576 < n
  · have h : (1048576 : Int) - (n : Int) < 0 := by omega
    go_enter Try.func9, Try.ntmps9
    go_wp2
    go_ret
    exact ⟨⟨-1, rfl, Or.inl (by decide)⟩, Below.refl _ _⟩
  have h : 0 ≤ (1048576 : Int) - (n : Int) := by omega
  go_enter Try.func9, Try.ntmps9
  go_wp2
  go_loopw [1, 5] (fun l i wr => ∃ (k : Nat) (z : Int), k ≤ n ∧ i = .int .i64 k ∧ l = .int .i64 z ∧ 0 ≤ z ∧ z ≤ 1048576 ∧ (∀ j, j < k → (K j).size ≤ 1048576 ∧ (T j).size ≤ 1048576) ∧ Below w.heap.size w wr) (fun _ i _ => n - (intOf i).toNat)
  case atStart => exact ⟨0, _, by omega, rfl, rfl, by omega, by omega, fun j hj => by omega, Below.refl _ _⟩
  case round =>
    obtain ⟨k, z, hk, rfl, rfl, z0, z1, hB, B⟩ := hrel
    by_cases hkn : k < n
    · have i1 : (k : Int) < (n : Int) := by omega
      have i0 : (0 : Int) ≤ (k : Int) := by omega
      have c0 : wr.cell? ⟨b, off + k * 3, none⟩ = some (.string (K k)) := (B.cell (p := ⟨b, off + k * 3, none⟩) hb).trans (hc k hkn).1
      have c1 : wr.cell? ⟨b, off + k * 3 + 1, none⟩ = some (.string (T k)) := (B.cell (p := ⟨b, off + k * 3 + 1, none⟩) hb).trans (hc k hkn).2.1
      have c2 : wr.cell? ⟨b, off + k * 3 + 2, none⟩ = some (.int .i64 (J k)) := (B.cell (p := ⟨b, off + k * 3 + 2, none⟩) hb).trans (hc k hkn).2.2
      have HS : Hid (Calls Try.prog 37 #[.agg #[.string (K k), .string (T k), .int .i64 (J k)], .int .i64 z] wr fun r w' => (∃ y : Int, r = .returned (.int .i64 y) ∧ (y = -1 ∨ 0 ≤ y ∧ y = z - ((K k).size : Int) - ((T k).size : Int))) ∧ Below wr.heap.size wr w') := szNode (K k) (T k) (J k) z wr z0 z1 (hK k) (hT k)
      have HB : Hid (∀ j, j < k → (K j).size ≤ 1048576 ∧ (T j).size ≤ 1048576) := hB
      clear hB
      go_wp2_with (go_at_call 37; refine (Hid.out HS).mono ?_; rintro e w2 ⟨⟨y, rfl, hy⟩, B2⟩)
      · go_ret
        exact ⟨⟨-1, rfl, Or.inl (by decide)⟩, B.trans (B2.mono B.size)⟩
      · refine ⟨⟨k + 1, y, by omega, by go_num, rfl, by omega, by omega, fun j hj => ?_, B.trans (B2.mono B.size)⟩, by simp [intOf]; omega⟩
        by_cases e : j < k
        · exact HB.out j e
        · have e' : j = k := by omega
          subst e'
          exact ⟨by omega, by omega⟩
    · have hkk : k = n := by omega
      subst hkk
      go_wp2
      go_ret
      exact ⟨⟨_, rfl, Or.inr ⟨z0, z1, by omega, hB⟩⟩, B⟩
set_option maxRecDepth 100000 in
theorem szN0 (a : Option Addr) (cap : Nat) (w : World) :
    Calls Try.prog 9 #[.slice a 0 cap, .int .i64 1048576] w fun r w' => r = .returned (.int .i64 1048576) ∧ Below w.heap.size w w' := by
  go_enter Try.func9, Try.ntmps9
  go_wp2
  refine wp_loop_rounds 1 ?_
  rw [rounds_succ]
  go_wp2
  go_ret
  exact ⟨rfl, Below.refl _ _⟩
theorem argSz {w : World} {a : Option Addr} {n : Nat} {K T : Nat → ByteArray} {J : Nat → Int} (h : Arg3 w a n K T J) (cap : Nat) (hn : n ≤ 9223372036854775807) (hK : ∀ i, (K i).size ≤ 9223372036854775807) (hT : ∀ i, (T i).size ≤ 9223372036854775807) :
    Calls Try.prog 9 #[.slice a n cap, .int .i64 1048576] w fun r w' => (∃ z : Int, r = .returned (.int .i64 z) ∧ (z < 0 ∨ 0 ≤ z ∧ z ≤ 1048576 ∧ n ≤ 1048576 ∧ ∀ i, i < n → (K i).size ≤ 1048576 ∧ (T i).size ≤ 1048576)) ∧ Below w.heap.size w w' := by
  rcases h with rfl | ⟨b, off, rfl, hl, hc⟩
  · exact (szN0 a cap w).mono fun e w' ⟨h1, h3⟩ => ⟨⟨_, h1, Or.inr ⟨by decide, by decide, by omega, fun i hi => by omega⟩⟩, h3⟩
  · exact szN n b off cap K T J w hn hK hT hl hc
end Go.Proofs.Yteakeaclpcgopaa
