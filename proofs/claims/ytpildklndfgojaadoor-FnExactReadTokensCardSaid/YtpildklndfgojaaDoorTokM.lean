/- The law's marks in a row of tokens (markTokenS, heldTokenS, and of a Lexed: markLexed, heldLexed), and eqLexed; conditions: the row is one that a call made, at most 400 long. -/
import Derived.Test.YtpildklndfgojaaDoorTokR
namespace Go.Proofs.YtpildklndfgojaaDoor.Tk
open Go.ChangeShapes Go.WideShapes Go.ChangeAt Go.RowKit
set_option linter.unusedVariables false
theorem Row3.setK {w : World} {o n : Nat} {K J : Nat → Int} {T : Nat → ByteArray} (h : Row3 w o n K T J) (q : Nat) (a : Int) : Row3 (w.setCell ⟨o, q * 3, none⟩ (.int .i64 a)) o n (fun i => if i = q then a else K i) T J := by
  refine ⟨fun i hi => ?_, fun i hi => ?_, fun i hi => ?_, fun i => by simp [h.free i], by simpa using h.hi⟩
  · rw [cell_put _ _ _ _ _ _ (h.k i hi)]
    by_cases e : i = q
    · subst e; simp
    · rw [if_neg (by omega)]; simp [e]
  · rw [cell_put _ _ _ _ _ _ (h.t i hi), if_neg (by omega)]
  · rw [cell_put _ _ _ _ _ _ (h.j i hi), if_neg (by omega)]
theorem Row3.setT {w : World} {o n : Nat} {K J : Nat → Int} {T : Nat → ByteArray} (h : Row3 w o n K T J) (q : Nat) (a : ByteArray) : Row3 (w.setCell ⟨o, q * 3 + 1, none⟩ (.string a)) o n K (fun i => if i = q then a else T i) J := by
  refine ⟨fun i hi => ?_, fun i hi => ?_, fun i hi => ?_, fun i => by simp [h.free i], by simpa using h.hi⟩
  · rw [cell_put _ _ _ _ _ _ (h.k i hi), if_neg (by omega)]
  · rw [cell_put _ _ _ _ _ _ (h.t i hi)]
    by_cases e : i = q
    · subst e; simp
    · rw [if_neg (by omega)]; simp [e]
  · rw [cell_put _ _ _ _ _ _ (h.j i hi), if_neg (by omega)]
theorem Row3.setJ {w : World} {o n : Nat} {K J : Nat → Int} {T : Nat → ByteArray} (h : Row3 w o n K T J) (q : Nat) (a : Int) : Row3 (w.setCell ⟨o, q * 3 + 2, none⟩ (.int .i64 a)) o n K T (fun i => if i = q then a else J i) := by
  refine ⟨fun i hi => ?_, fun i hi => ?_, fun i hi => ?_, fun i => by simp [h.free i], by simpa using h.hi⟩
  · rw [cell_put _ _ _ _ _ _ (h.k i hi), if_neg (by omega)]
  · rw [cell_put _ _ _ _ _ _ (h.t i hi), if_neg (by omega)]
  · rw [cell_put _ _ _ _ _ _ (h.j i hi)]
    by_cases e : i = q
    · subst e; simp
    · rw [if_neg (by omega)]; simp [e]
/-- What the marks leave. -/
def mK (i : Nat) : Int := ((1 + 3 * i : Nat) : Int)
def mT (i : Nat) : ByteArray := mtext (1 + 3 * i + 1)
def mJ (i : Nat) : Int := ((1 + 3 * i + 2 : Nat) : Int)
theorem upTo {α : Type} (f g : Nat → α) (k j : Nat) : (if j < k + 1 then f j else g j) = if j = k then f k else if j < k then f j else g j := by
  by_cases e1 : j = k
  · subst e1; simp
  · rw [if_neg e1]
    by_cases e2 : j < k
    · rw [if_pos e2, if_pos (by omega)]
    · rw [if_neg e2, if_neg (by omega)]
set_option maxHeartbeats 2000000 in
set_option maxRecDepth 100000 in
theorem mark69 {w : World} {o n : Nat} {K J : Nat → Int} {T : Nat → ByteArray} (R : Row3 w o n K T J) (c : Nat) (hn : n ≤ 400) :
    Calls Tryd.prog 69 #[.slice (some ⟨o, 0, none⟩) n c, .int .i64 1] w fun r w' => r = .returned (.int .i64 ((1 + 3 * n : Nat) : Int)) ∧ Row3 w' o n mK mT mJ ∧ Only o w w' := by
  go_enter Tryd.func69, Tryd.ntmps69
  go_wp2
  go_loopw [1, 5] (fun l i wr => ∃ k : Nat, k ≤ n ∧ i = .int .i64 k ∧ l = .int .i64 ((1 + 3 * k : Nat) : Int) ∧ Row3 wr o n (fun j => if j < k then mK j else K j) (fun j => if j < k then mT j else T j) (fun j => if j < k then mJ j else J j) ∧ Only o w wr) (fun _ i _ => n - (intOf i).toNat)
  case atStart => exact ⟨0, by omega, rfl, rfl, R.mono (Nat.le_refl _) (fun j _ => by simp) (fun j _ => by simp) (fun j _ => by simp), Only.refl _ _⟩
  case round =>
    obtain ⟨k, hk, rfl, rfl, RK, OK⟩ := hrel
    by_cases hkn : k < n
    · have i1 : (k : Int) < (n : Int) := by omega
      have i0 : (0 : Int) ≤ (k : Int) := by omega
      have b0 := RK.free (k * 3)
      have a0 : wr.cell? ⟨o, k * 3, none⟩ = some (.int .i64 (K k)) := by have := RK.k k hkn; simpa using this
      obtain ⟨M, hM⟩ : ∃ M : Nat, 1 + 3 * k = M := ⟨_, rfl⟩
      have M0 : M ≤ 1300 := by omega
      have R1 := RK.setK k ((M : Nat) : Int)
      have O1 : Only o w (wr.setCell ⟨o, k * 3, none⟩ (.int .i64 ((M : Nat) : Int))) := OK.setCell _ _
      have HR : Hid (∀ w2, Below (wr.setCell ⟨o, k * 3, none⟩ (.int .i64 ((M : Nat) : Int))).heap.size (wr.setCell ⟨o, k * 3, none⟩ (.int .i64 ((M : Nat) : Int))) w2 → Hid (Row3 w2 o n (fun i => if i = k then ((M : Nat) : Int) else if i < k then mK i else K i) (fun j => if j < k then mT j else T j) (fun j => if j < k then mJ j else J j)) ∧ Only o w w2) := fun w2 B2 => ⟨R1.next B2, O1.trans (Only.ofBelow B2)⟩
      have HM : Hid (1 + 3 * k = M) := hM
      rw [hM]
      have e1 : Hid ((M : Int) + 1 = ((M + 1 : Nat) : Int)) := by show (M : Int) + 1 = ((M + 1 : Nat) : Int); omega
      clear hM R1 O1 OK RK
      go_wp2_with (go_at_call 108; rw [e1.out]; refine (markText15 (M + 1) _ (by omega) (by omega)).mono ?_; rintro e w2 ⟨rfl, B2⟩; obtain ⟨R2, O2⟩ := (Hid.out HR) w2 B2; have f1 := R2.out.free (k * 3 + 1); have f2 := R2.out.free (k * 3 + 2); (have g1 : w2.cell? ⟨o, k * 3 + 1, none⟩ = some (.string (T k)) := by have := R2.out.t k hkn; simpa using this); (have g2 : w2.cell? ⟨o, k * 3 + 2, none⟩ = some (.int .i64 (J k)) := by have := R2.out.j k hkn; simpa using this))
      have hM := HM.out
      have q1 : mK k = ((M : Nat) : Int) := by unfold mK; rw [hM]
      have q2 : mT k = mtext (M + 1) := by unfold mT; rw [hM]
      have q3 : mJ k = ((M : Nat) : Int) + 1 + 1 := by unfold mJ; rw [hM]; omega
      refine ⟨⟨k + 1, by omega, by go_num, by congr 1; omega, ((R2.out.setT k _).setJ k _).mono (Nat.le_refl _) (fun j _ => ?_) (fun j _ => ?_) (fun j _ => ?_), (O2.setCell _ _).setCell _ _⟩, by simp [intOf]; omega⟩
      · rw [← q1]; exact upTo mK K k j
      · rw [← q2]; exact upTo mT T k j
      · rw [← q3]; exact upTo mJ J k j
    · have hkk : k = n := by omega
      subst hkk
      go_wp2
      go_ret
      exact ⟨rfl, RK.mono (Nat.le_refl _) (fun j hj => by simp [hj]) (fun j hj => by simp [hj]) (fun j hj => by simp [hj]), OK⟩
set_option maxRecDepth 100000 in
theorem mark69n (a : Option Addr) (c : Nat) (w : World) : Calls Tryd.prog 69 #[.slice a 0 c, .int .i64 1] w fun r w' => r = .returned (.int .i64 1) ∧ w' = w := by
  go_enter Tryd.func69, Tryd.ntmps69
  go_wp2
  refine wp_loop_rounds 1 ?_
  rw [rounds_succ]
  go_wp2
  go_ret
  exact ⟨rfl, rfl⟩
set_option maxHeartbeats 2000000 in
set_option maxRecDepth 100000 in
theorem held70 {w : World} {o n : Nat} (R : Row3 w o n mK mT mJ) (c : Nat) (hn : n ≤ 400) :
    Calls Tryd.prog 70 #[.slice (some ⟨o, 0, none⟩) n c, .int .i64 1] w fun r w' => r = .returned (.int .i64 ((1 + 3 * n : Nat) : Int)) ∧ Below w.heap.size w w' := by
  go_enter Tryd.func70, Tryd.ntmps70
  go_wp2
  go_loopw [1, 5] (fun l i wx => ∃ k : Nat, k ≤ n ∧ i = .int .i64 k ∧ l = .int .i64 ((1 + 3 * k : Nat) : Int) ∧ Below w.heap.size w wx) (fun _ i _ => n - (intOf i).toNat)
  case atStart => exact ⟨0, by omega, rfl, rfl, Below.refl _ _⟩
  case round =>
    obtain ⟨k, hk, rfl, rfl, B⟩ := hrel
    by_cases hkn : k < n
    · have i1 : (k : Int) < (n : Int) := by omega
      have i0 : (0 : Int) ≤ (k : Int) := by omega
      obtain ⟨M, hM⟩ : ∃ M : Nat, 1 + 3 * k = M := ⟨_, rfl⟩
      have M0 : M ≤ 1300 := by omega
      have RR := R.next B
      have c0 : wr.cell? ⟨o, k * 3, none⟩ = some (.int .i64 (M : Int)) := by rw [RR.k k hkn, mK, hM]
      have c1 : wr.cell? ⟨o, k * 3 + 1, none⟩ = some (.string (mtext (M + 1))) := by rw [RR.t k hkn, mT, hM]
      have HR : Hid (∀ w2, Below wr.heap.size wr w2 → w2.cell? ⟨o, k * 3 + 2, none⟩ = some (.int .i64 ((M : Int) + 1 + 1))) := fun w2 B2 => by rw [(RR.next B2).j k hkn, mJ, hM]; congr 2
      have HM : Hid (1 + 3 * k = M) := hM
      rw [hM]
      have e1 : Hid ((M : Int) + 1 = ((M + 1 : Nat) : Int)) := by show (M : Int) + 1 = ((M + 1 : Nat) : Int); omega
      obtain ⟨s, hs⟩ : ∃ s, mtext (M + 1) = s := ⟨_, rfl⟩
      have HT : Hid (∀ w1 : World, Calls Tryd.prog 108 #[.int .i64 ((M : Int) + 1)] w1 fun r w' => r = .returned (.string s) ∧ Below w1.heap.size w1 w') := fun w1 => by rw [e1.out, ← hs]; exact markText15 (M + 1) w1 (by omega) (by omega)
      rw [hs] at c1
      have es : (s.toList == s.toList) = true := by simp
      clear hM RR R hs
      go_wp2
      go_region_with (go_at_call 108; refine ((Hid.out HT) _).mono ?_; rintro e w2 ⟨rfl, B2⟩; (have B3 : Below wr.heap.size wr w2 := ⟨B2.os, B2.tape, B2.output, B2.size, B2.block⟩); have c2 := (Hid.out HR) w2 B3; have c1' := (B3.cell (p := ⟨o, k * 3 + 1, none⟩) (World.block_lt_of_cell? wr ⟨o, k * 3 + 1, none⟩ c1)).trans c1)
      all_goals
        go_wp2
        have hM := HM.out
        exact ⟨⟨k + 1, by omega, by go_num, by congr 1; omega, B.trans (B3.mono B.size)⟩, by simp [intOf]; omega⟩
    · have hkk : k = n := by omega
      subst hkk
      go_wp2
      go_ret
      exact ⟨rfl, B⟩
set_option maxRecDepth 100000 in
theorem held70n (a : Option Addr) (c : Nat) (w : World) : Calls Tryd.prog 70 #[.slice a 0 c, .int .i64 1] w fun r w' => r = .returned (.int .i64 1) ∧ w' = w := by
  go_enter Tryd.func70, Tryd.ntmps70
  go_wp2
  refine wp_loop_rounds 1 ?_
  rw [rounds_succ]
  go_wp2
  go_ret
  exact ⟨rfl, rfl⟩
/-- A slice of n tokens that a call made, or none. -/
def RowV (w : World) (v : Value) (n : Nat) (K : Nat → Int) (T : Nat → ByteArray) (J : Nat → Int) : Prop := (n = 0 ∧ v = .slice none 0 0) ∨ ∃ o c, v = .slice (some ⟨o, 0, none⟩) n c ∧ Row3 w o n K T J
theorem Row3.grown {w w' : World} {o n : Nat} {K J : Nat → Int} {T : Nat → ByteArray} {row : Option Nat} (h : Row3 w o n K T J) (hb : w.grownBy w' row) (hne : some o ≠ row) : Row3 w' o n K T J := by
  have z := hb.size
  have zh := h.hi
  have b := hb.block o zh hne
  exact ⟨fun i hi => (World.cell?_of_block (w := w) (a := ⟨o, i * 3, none⟩) b).trans (h.k i hi), fun i hi => (World.cell?_of_block (w := w) (a := ⟨o, i * 3 + 1, none⟩) b).trans (h.t i hi), fun i hi => (World.cell?_of_block (w := w) (a := ⟨o, i * 3 + 2, none⟩) b).trans (h.j i hi), fun i => (World.frozen?_of_block (w := w) (a := ⟨o, i, none⟩) b).trans (h.free i), by omega⟩
theorem RowV.grown {w w' : World} {v : Value} {n : Nat} {K J : Nat → Int} {T : Nat → ByteArray} {row : Option Nat} (h : RowV w v n K T J) (hb : w.grownBy w' row) (hne : v.ownBlock = none ∨ v.ownBlock ≠ row) : RowV w' v n K T J := by
  rcases h with h | ⟨o, c, rfl, R⟩
  · exact Or.inl h
  · exact Or.inr ⟨o, c, rfl, R.grown hb (by simpa [Value.ownBlock] using hne)⟩
theorem grown_below {w w' : World} (hb : Below w.heap.size w w') (row : Option Nat) : w.grownBy w' row := ⟨hb.os, hb.tape, hb.output, hb.size, fun k hk _ => hb.block k hk⟩
theorem grown_trans {a b c : World} {row : Option Nat} (h : a.grownBy b row) (k : b.grownBy c row) : a.grownBy c row := ⟨k.os.trans h.os, k.tape.trans h.tape, k.output.trans h.output, Nat.le_trans h.size k.size, fun i hi hn => (k.block i (Nat.lt_of_lt_of_le hi h.size) hn).trans (h.block i hi hn)⟩
theorem RowV.next {w w' : World} {v : Value} {n : Nat} {K J : Nat → Int} {T : Nat → ByteArray} (h : RowV w v n K T J) (hb : Below w.heap.size w w') : RowV w' v n K T J := h.grown (grown_below hb none) (by cases hv : v.ownBlock <;> simp)
theorem mark69v {w : World} {v : Value} {n : Nat} {K J : Nat → Int} {T : Nat → ByteArray} (R : RowV w v n K T J) (hn : n ≤ 400) :
    Calls Tryd.prog 69 #[v, .int .i64 1] w fun r w' => r = .returned (.int .i64 ((1 + 3 * n : Nat) : Int)) ∧ RowV w' v n mK mT mJ ∧ w.grownBy w' v.ownBlock := by
  rcases R with ⟨rfl, rfl⟩ | ⟨o, c, rfl, R⟩
  · exact (mark69n none 0 w).mono fun e w' ⟨h1, h2⟩ => ⟨h1, Or.inl ⟨rfl, rfl⟩, by rw [h2]; exact grown_below (Below.refl _ _) _⟩
  · exact (mark69 R c hn).mono fun e w' ⟨h1, h2, h3⟩ => ⟨h1, Or.inr ⟨o, c, rfl, h2⟩, ⟨h3.os, h3.tape, h3.output, h3.size, fun k hk hne => h3.block k hk (fun e => hne (by rw [e]; rfl))⟩⟩
theorem held70v {w : World} {v : Value} {n : Nat} (R : RowV w v n mK mT mJ) (hn : n ≤ 400) :
    Calls Tryd.prog 70 #[v, .int .i64 1] w fun r w' => r = .returned (.int .i64 ((1 + 3 * n : Nat) : Int)) ∧ Below w.heap.size w w' := by
  rcases R with ⟨rfl, rfl⟩ | ⟨o, c, rfl, R⟩
  · exact (held70n none 0 w).mono fun e w' ⟨h1, h2⟩ => ⟨h1, by rw [h2]; exact Below.refl _ _⟩
  · exact held70 R c hn
theorem RowV.is {w : World} {v : Value} {n : Nat} {K J : Nat → Int} {T : Nat → ByteArray} (R : RowV w v n K T J) : ∃ a l c, v = .slice a l c := by
  rcases R with ⟨_, rfl⟩ | ⟨o, c, rfl, _⟩
  · exact ⟨_, _, _, rfl⟩
  · exact ⟨_, _, _, rfl⟩
theorem alloc_b {w : World} {o : Obj} : Below w.heap.size w (w.alloc o) := (Below.refl _ _).alloc (Nat.le_refl _) _
set_option maxHeartbeats 1000000 in
set_option maxRecDepth 100000 in
theorem mark21 {w : World} {v : Value} {n : Nat} {K J : Nat → Int} {T : Nat → ByteArray} (R : RowV w v n K T J) (hn : n ≤ 400) (cd a : Int) :
    Calls Tryd.prog 21 #[.agg #[v, .int .i64 cd, .int .i64 a], .int .i64 1] w fun r w' => r = .returned (.int .i64 ((1 + 3 * n : Nat) : Int)) ∧ RowV w' v n mK mT mJ ∧ w.grownBy w' v.ownBlock := by
  obtain ⟨s, l, c, rfl⟩ := R.is
  have H : Hid (∀ wx : World, Below w.heap.size w wx → Calls Tryd.prog 69 #[.slice s l c, .int .i64 1] wx fun r w' => r = .returned (.int .i64 ((1 + 3 * n : Nat) : Int)) ∧ RowV w' (.slice s l c) n mK mT mJ ∧ w.grownBy w' (Value.slice s l c).ownBlock) := fun wx b =>
    (mark69v (R.next b) hn).mono fun e w' ⟨h1, h2, h3⟩ => ⟨h1, h2, grown_trans (grown_below b _) h3⟩
  clear R
  obtain ⟨N, hN⟩ : ∃ N : Int, ((1 + 3 * n : Nat) : Int) = N := ⟨_, rfl⟩
  rw [hN] at H ⊢
  clear hN
  go_enter Tryd.func21, Tryd.ntmps21
  go_wp2_with (go_at_call 69; refine ((Hid.out H) _ alloc_b).mono ?_; rintro e w1 ⟨rfl, R1, g1⟩)
  go_ret
  exact ⟨rfl, R1, g1⟩
set_option maxHeartbeats 1000000 in
set_option maxRecDepth 100000 in
theorem held22 {w : World} {v : Value} {n : Nat} (R : RowV w v n mK mT mJ) (hn : n ≤ 400) (cd a : Int) :
    Calls Tryd.prog 22 #[.agg #[v, .int .i64 cd, .int .i64 a], .int .i64 1] w fun r w' => r = .returned (.int .i64 ((1 + 3 * n : Nat) : Int)) ∧ Below w.heap.size w w' := by
  obtain ⟨s, l, c, rfl⟩ := R.is
  have H : Hid (∀ wx : World, Below w.heap.size w wx → Calls Tryd.prog 70 #[.slice s l c, .int .i64 1] wx fun r w' => r = .returned (.int .i64 ((1 + 3 * n : Nat) : Int)) ∧ Below w.heap.size w w') := fun wx b =>
    (held70v (R.next b) hn).mono fun e w' ⟨h1, h2⟩ => ⟨h1, b.trans (h2.mono b.size)⟩
  clear R
  obtain ⟨N, hN⟩ : ∃ N : Int, ((1 + 3 * n : Nat) : Int) = N := ⟨_, rfl⟩
  rw [hN] at H ⊢
  have N0 : ¬ N < 0 := by omega
  clear hN
  go_enter Tryd.func22, Tryd.ntmps22
  go_wp2_with (go_at_call 70; refine ((Hid.out H) _ alloc_b).mono ?_; rintro e w1 ⟨rfl, B1⟩)
  go_ret
  exact ⟨rfl, B1⟩
set_option maxRecDepth 100000 in
theorem eqN0 (a b : Option Addr) (ca cb : Nat) (w : World) : Calls Tryd.prog 27 #[.slice a 0 ca, .slice b 0 cb] w fun r w' => r = .returned (.bool true) ∧ Below w.heap.size w w' := by
  go_enter Tryd.func27, Tryd.ntmps27
  go_wp2
  refine wp_loop_rounds 1 ?_
  rw [rounds_succ]
  go_wp2
  go_ret
  exact ⟨rfl, Below.refl _ _⟩
theorem eqV {w : World} {u v : Value} {n : Nat} {K J : Nat → Int} {T : Nat → ByteArray} (X : RowV w u n K T J) (Y : RowV w v n K T J) (hn : n ≤ 400) :
    Calls Tryd.prog 27 #[u, v] w fun r w' => r = .returned (.bool true) ∧ Below w.heap.size w w' := by
  rcases X with ⟨rfl, rfl⟩ | ⟨o, c, rfl, X⟩
  · rcases Y with ⟨_, rfl⟩ | ⟨o, c, rfl, Y⟩
    · exact eqN0 _ _ _ _ w
    · exact eqN0 _ _ _ _ w
  · rcases Y with ⟨h0, rfl⟩ | ⟨o', c', rfl, Y⟩
    · subst h0; exact eqN0 _ _ _ _ w
    · exact eqN X Y _ _ (by omega)
set_option maxHeartbeats 1000000 in
set_option maxRecDepth 100000 in
theorem eq20 {w : World} {u v : Value} {n : Nat} {K J : Nat → Int} {T : Nat → ByteArray} (X : RowV w u n K T J) (Y : RowV w v n K T J) (hn : n ≤ 400) (cd a : Int) :
    Calls Tryd.prog 20 #[.agg #[u, .int .i64 cd, .int .i64 a], .agg #[v, .int .i64 cd, .int .i64 a]] w fun r w' => r = .returned (.bool true) ∧ Below w.heap.size w w' := by
  obtain ⟨s, l, c, rfl⟩ := X.is
  obtain ⟨s', l', c', rfl⟩ := Y.is
  have H : Hid (∀ wx : World, Below w.heap.size w wx → Calls Tryd.prog 27 #[.slice s l c, .slice s' l' c'] wx fun r w' => r = .returned (.bool true) ∧ Below w.heap.size w w' ∧ (wx.cell? ⟨w.heap.size, 1, none⟩ = some (.int .i64 cd) ∧ wx.cell? ⟨w.heap.size, 2, none⟩ = some (.int .i64 a) ∧ wx.cell? ⟨w.heap.size + 1, 1, none⟩ = some (.int .i64 cd) ∧ wx.cell? ⟨w.heap.size + 1, 2, none⟩ = some (.int .i64 a) ∧ wx.heap.size = w.heap.size + 2 → w'.cell? ⟨w.heap.size, 1, none⟩ = some (.int .i64 cd) ∧ w'.cell? ⟨w.heap.size, 2, none⟩ = some (.int .i64 a) ∧ w'.cell? ⟨w.heap.size + 1, 1, none⟩ = some (.int .i64 cd) ∧ w'.cell? ⟨w.heap.size + 1, 2, none⟩ = some (.int .i64 a))) := fun wx b =>
    (eqV (X.next b) (Y.next b) hn).mono fun e w' ⟨h1, h2⟩ => ⟨h1, b.trans (h2.mono b.size), fun ⟨c1, c2, c3, c4, z⟩ => ⟨(h2.cell (p := ⟨w.heap.size, 1, none⟩) (by show w.heap.size < _; omega)).trans c1, (h2.cell (p := ⟨w.heap.size, 2, none⟩) (by show w.heap.size < _; omega)).trans c2, (h2.cell (p := ⟨w.heap.size + 1, 1, none⟩) (by show w.heap.size + 1 < _; omega)).trans c3, (h2.cell (p := ⟨w.heap.size + 1, 2, none⟩) (by show w.heap.size + 1 < _; omega)).trans c4⟩⟩
  clear X Y
  go_enter Tryd.func20, Tryd.ntmps20
  go_wp2_with (go_at_call 27; refine ((Hid.out H) _ (by first | exact (alloc_b.trans (alloc_b.mono (by simp))) | exact below_drewN (alloc_b.trans (alloc_b.mono (by simp))) _)).mono ?_; rintro e w1 ⟨rfl, B1, hc⟩; obtain ⟨c1, c2, c3, c4⟩ := hc (by simp))
  go_ret
  exact ⟨rfl, B1⟩
end Go.Proofs.YtpildklndfgojaaDoor.Tk
