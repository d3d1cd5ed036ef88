/- Rows of rows of words: memory, comparisons (eqUint32SS), the law's marks (markUint32SS, heldUint32SS); conditions: rows that a call made, no two in one block. -/
import Derived.Test.YteakeaclpcgopaaVal
import Derived.Test.YteakeaclpcgopaaSpt
namespace Go.Proofs.Yteakeaclpcgopaa
open Go.ChangeShapes Go.WideShapes Go.ChangeAt Go.RowKit
open Tk (Own Only)
set_option linter.unusedVariables false
/-- A row of words, or none. -/
def URow (w : World) (u : Value) (L : Nat) (F : Nat → Int) : Prop := (L = 0 ∧ u = .slice none 0 0) ∨ ∃ g c, u = .slice (some ⟨g, 0, none⟩) L c ∧ Own w g L (fun j => .int .u32 (F j))
theorem URow.next {w w' : World} {u : Value} {L : Nat} {F : Nat → Int} (h : URow w u L F) (B : Below w.heap.size w w') : URow w' u L F := by
  rcases h with h | ⟨g, c, rfl, O⟩
  · exact Or.inl h
  · exact Or.inr ⟨g, c, rfl, O.next B⟩
theorem URow.but {w w' : World} {u : Value} {L p : Nat} {F : Nat → Int} (h : URow w u L F) (B : Only p w w') (hne : u.ownBlock ≠ some p) : URow w' u L F := by
  rcases h with h | ⟨g, c, rfl, O⟩
  · exact Or.inl h
  · exact Or.inr ⟨g, c, rfl, O.but B (fun e => hne (by rw [e]; rfl))⟩
theorem URow.keep {w w' : World} {u : Value} {L B : Nat} {F : Nat → Int} (h : URow w u L F) (b : Below B w w') (hB : ∀ g, u.ownBlock = some g → g < B) : URow w' u L F := by
  rcases h with h | ⟨g, c, rfl, O⟩
  · exact Or.inl h
  · have hg := hB g rfl
    have z := b.size
    have zh := O.hi
    exact Or.inr ⟨g, c, rfl, ⟨fun i hi => (b.cell (p := ⟨g, i, none⟩) hg).trans (O.cell i hi), fun i => (b.frozen (p := ⟨g, i, none⟩) hg).trans (O.free i), by omega⟩⟩
theorem URow.is {w : World} {u : Value} {L : Nat} {F : Nat → Int} (h : URow w u L F) : ∃ a l c, u = .slice a l c := by
  rcases h with ⟨_, rfl⟩ | ⟨g, c, rfl, _⟩
  · exact ⟨_, _, _, rfl⟩
  · exact ⟨_, _, _, rfl⟩
/-- Rows of words under one row of slices. -/
structure SS (w : World) (v : Value) (n : Nat) (S : Nat → Value) (L : Nat → Nat) (F : Nat → Nat → Int) : Prop where
  top : (n = 0 ∧ v = .slice none 0 0) ∨ ∃ o c, v = .slice (some ⟨o, 0, none⟩) n c ∧ Own w o n S
  row : ∀ i, i < n → URow w (S i) (L i) (F i)
theorem SS.next {w w' : World} {v : Value} {n : Nat} {S : Nat → Value} {L : Nat → Nat} {F : Nat → Nat → Int} (h : SS w v n S L F) (B : Below w.heap.size w w') : SS w' v n S L F :=
  ⟨h.top.imp id fun ⟨o, c, e, O⟩ => ⟨o, c, e, O.next B⟩, fun i hi => (h.row i hi).next B⟩
theorem SS.keep {w w' : World} {v : Value} {n B : Nat} {S : Nat → Value} {L : Nat → Nat} {F : Nat → Nat → Int} (h : SS w v n S L F) (b : Below B w w') (hv : ∀ g, v.ownBlock = some g → g < B) (hS : ∀ i, i < n → ∀ g, (S i).ownBlock = some g → g < B) : SS w' v n S L F := by
  refine ⟨?_, fun i hi => (h.row i hi).keep b (hS i hi)⟩
  rcases h.top with h0 | ⟨o, c, rfl, O⟩
  · exact Or.inl h0
  · have hg := hv o rfl
    have z := b.size
    have zh := O.hi
    exact Or.inr ⟨o, c, rfl, ⟨fun i hi => (b.cell (p := ⟨o, i, none⟩) hg).trans (O.cell i hi), fun i => (b.frozen (p := ⟨o, i, none⟩) hg).trans (O.free i), by omega⟩⟩
theorem SS.is {w : World} {v : Value} {n : Nat} {S : Nat → Value} {L : Nat → Nat} {F : Nat → Nat → Int} (h : SS w v n S L F) : ∃ a l c, v = .slice a l c := by
  rcases h.top with ⟨_, rfl⟩ | ⟨o, c, rfl, _⟩
  · exact ⟨_, _, _, rfl⟩
  · exact ⟨_, _, _, rfl⟩
theorem eqUV {w : World} {a b : Value} {L : Nat} {F : Nat → Int} (X : URow w a L F) (Y : URow w b L F) (hL : L ≤ 1048576) : Calls Try.prog 71 #[a, b] w fun r w' => r = .returned (.bool true) ∧ Below w.heap.size w w' := by
  have e0 : ∀ (x y : Option Addr) (cx cy : Nat), Calls Try.prog 71 #[.slice x 0 cx, .slice y 0 cy] w fun r w' => r = .returned (.bool true) ∧ Below w.heap.size w w' := fun x y cx cy => (Tk.eqU0 x y cx cy w).mono fun e w' ⟨h1, h2⟩ => ⟨h1, by rw [h2]; exact Below.refl _ _⟩
  rcases X with ⟨rfl, rfl⟩ | ⟨g, c, rfl, X⟩
  · rcases Y with ⟨_, rfl⟩ | ⟨g, c, rfl, Y⟩
    · exact e0 _ _ _ _
    · exact e0 _ _ _ _
  · rcases Y with ⟨h0, rfl⟩ | ⟨g', c', rfl, Y⟩
    · subst h0; exact e0 _ _ _ _
    · exact Tk.sameU X Y _ _ hL
set_option maxRecDepth 100000 in
set_option maxHeartbeats 4000000 in
theorem eqSS0 (a b : Option Addr) (ca cb : Nat) (w : World) : Calls Try.prog 29 #[.slice a 0 ca, .slice b 0 cb] w fun r w' => r = .returned (.bool true) ∧ Below w.heap.size w w' := by
  go_enter Try.func29, Try.ntmps29
  go_wp2
  refine wp_loop_rounds 1 ?_
  rw [rounds_succ]
  go_wp2
  go_ret
  exact ⟨rfl, Below.refl _ _⟩
set_option maxRecDepth 100000 in
set_option maxHeartbeats 4000000 in
theorem eqSSr {w : World} {n a b ca cb : Nat} {S S' : Nat → Value} {L : Nat → Nat} {F : Nat → Nat → Int} (X : Own w a n S) (Y : Own w b n S') (rx : ∀ i, i < n → URow w (S i) (L i) (F i)) (ry : ∀ i, i < n → URow w (S' i) (L i) (F i)) (hn : n ≤ 1048576) (hL : ∀ i, i < n → L i ≤ 1048576) :
    Calls Try.prog 29 #[.slice (some ⟨a, 0, none⟩) n ca, .slice (some ⟨b, 0, none⟩) n cb] w fun r w' => r = .returned (.bool true) ∧ Below w.heap.size w w' := by
  have HR : Hid (∀ i, i < n → ∀ w', Below w.heap.size w w' → Calls Try.prog 71 #[S i, S' i] w' fun r w'' => r = .returned (.bool true) ∧ Below w'.heap.size w' w'') := fun i hi w' B => eqUV ((rx i hi).next B) ((ry i hi).next B) (hL i hi)
  have HS : Hid (∀ i, i < n → (∃ x l c, S i = .slice x l c) ∧ (∃ x l c, S' i = .slice x l c)) := fun i hi => ⟨(rx i hi).is, (ry i hi).is⟩
  clear rx ry hL
  go_enter Try.func29, Try.ntmps29
  go_wp2
  go_loopw [5] (fun i wx => ∃ k : Nat, k ≤ n ∧ i = .int .i64 k ∧ Below w.heap.size w wx) (fun i _ => n - (intOf i).toNat)
  case atStart => exact ⟨0, by omega, rfl, Below.refl _ _⟩
  case round =>
    obtain ⟨k, hk, rfl, B⟩ := hrel
    by_cases hkn : k < n
    · have a0 := (X.next B).cell k hkn
      have b0 := (Y.next B).cell k hkn
      have i0 : (0 : Int) ≤ (k : Int) := by omega
      have i1 : (k : Int) < (n : Int) := by omega
      obtain ⟨⟨x, l, c, e1⟩, x', l', c', e2⟩ := HS.out k hkn
      have hc := HR.out k hkn
      rw [e1] at a0
      rw [e2] at b0
      rw [e1, e2] at hc
      have HC : Hid (∀ w', Below w.heap.size w w' → Calls Try.prog 71 #[.slice x l c, .slice x' l' c'] w' fun r w'' => r = .returned (.bool true) ∧ Below w'.heap.size w' w'') := hc
      clear hc e1 e2
      go_wp2
      go_region_with (go_at_call 71; refine (HC.out _ (by first | exact B | exact B.drew)).mono ?_; rintro e w2 ⟨rfl, B2⟩; (have B3 : Below wr.heap.size wr w2 := ⟨B2.os, B2.tape, B2.output, B2.size, B2.block⟩))
      all_goals
        go_wp2
        go_roundw
        case rel => exact ⟨k + 1, by omega, by go_num, B.trans (B3.mono B.size)⟩
        case measure => simp [intOf]; omega
    · have hkk : k = n := by omega
      subst hkk
      go_wp2
      go_ret
      exact ⟨rfl, B⟩
theorem eqSS {w : World} {u v : Value} {n : Nat} {S S' : Nat → Value} {L : Nat → Nat} {F : Nat → Nat → Int} (X : SS w u n S L F) (Y : SS w v n S' L F) (hn : n ≤ 1048576) (hL : ∀ i, i < n → L i ≤ 1048576) : Calls Try.prog 29 #[u, v] w fun r w' => r = .returned (.bool true) ∧ Below w.heap.size w w' := by
  rcases X.top with ⟨rfl, rfl⟩ | ⟨a, ca, rfl, OX⟩
  · rcases Y.top with ⟨_, rfl⟩ | ⟨b, cb, rfl, _⟩
    · exact eqSS0 _ _ _ _ w
    · exact eqSS0 _ _ _ _ w
  · rcases Y.top with ⟨h0, rfl⟩ | ⟨b, cb, rfl, OY⟩
    · subst h0; exact eqSS0 _ _ _ _ w
    · exact eqSSr OX OY X.row Y.row hn hL
/-- What is marked ahead of row i. -/
def cumL (L : Nat → Nat) : Nat → Nat
  | 0 => 1
  | i + 1 => cumL L i + L i
theorem cumL_le (L : Nat → Nat) : ∀ i k, i ≤ k → cumL L i ≤ cumL L k
  | i, 0, h => by have : i = 0 := by omega
                  subst this; omega
  | i, k + 1, h => by
    by_cases e : i = k + 1
    · subst e; omega
    · have := cumL_le L i k (by omega)
      rw [cumL]; omega
def mkSS (L : Nat → Nat) (i j : Nat) : Int := ((cumL L i + j : Nat) : Int)
/-- No two rows in one block, none in that of the slices. -/
structure Sep (v : Value) (n : Nat) (S : Nat → Value) : Prop where
  two : ∀ i j, i < n → j < n → i ≠ j → ∀ g, (S i).ownBlock = some g → (S j).ownBlock ≠ some g
  one : ∀ i, i < n → ∀ g, (S i).ownBlock = some g → v.ownBlock ≠ some g
theorem markUV {w : World} {u : Value} {L : Nat} {F : Nat → Int} (X : URow w u L F) (k0 : Nat) (hL : L ≤ 1048576) (hk : k0 ≤ 1048577) : Calls Try.prog 72 #[u, .int .i64 (k0 : Nat)] w fun r w' => r = .returned (.int .i64 ((k0 + L : Nat) : Int)) ∧ URow w' u L (fun j => ((k0 + j : Nat) : Int)) ∧ (∀ p, u.ownBlock ≠ some p → ∀ (o n : Nat) (f : Nat → Value), p = o → Own w o n f → Own w' o n f) ∧ ∀ B, B ≤ w.heap.size → (∀ g, u.ownBlock = some g → B ≤ g) → Below B w w' := by
  rcases X with ⟨rfl, rfl⟩ | ⟨g, c, rfl, X⟩
  · exact (Tk.mark21n none 0 (k0 : Nat) w).mono fun e w' ⟨h1, h2⟩ => ⟨by rw [h1]; rfl, Or.inl ⟨rfl, rfl⟩, fun p _ o n f _ h => by rw [h2]; exact h, fun B _ _ => by rw [h2]; exact Below.refl _ _⟩
  · exact (Tk.mark21 X c k0 hL hk).mono fun e w' ⟨h1, h2, h3⟩ => ⟨h1, Or.inr ⟨g, c, rfl, h2⟩, fun p hp o n f e h => h.but h3 (fun e2 => hp (by rw [e, e2]; rfl)), fun B h4 h5 => h3.below (h5 g rfl) h4⟩
theorem heldUV {w : World} {u : Value} {L : Nat} (k0 : Nat) (X : URow w u L (fun j => ((k0 + j : Nat) : Int))) (hL : L ≤ 1048576) (hk : k0 ≤ 1048577) : Calls Try.prog 74 #[u, .int .i64 (k0 : Nat)] w fun r w' => r = .returned (.int .i64 ((k0 + L : Nat) : Int)) ∧ w' = w := by
  rcases X with ⟨rfl, rfl⟩ | ⟨g, c, rfl, X⟩
  · exact (Tk.held23n none 0 (k0 : Nat) w).mono fun e w' ⟨h1, h2⟩ => ⟨by rw [h1]; rfl, h2⟩
  · exact Tk.held23 c k0 X hL hk
set_option maxRecDepth 100000 in
set_option maxHeartbeats 4000000 in
theorem markSS0 (a : Option Addr) (c : Nat) (w : World) : Calls Try.prog 30 #[.slice a 0 c, .int .i64 1] w fun r w' => r = .returned (.int .i64 1) ∧ w' = w := by
  go_enter Try.func30, Try.ntmps30
  go_wp2
  refine wp_loop_rounds 1 ?_
  rw [rounds_succ]
  go_wp2
  go_ret
  exact ⟨rfl, rfl⟩
set_option maxRecDepth 100000 in
set_option maxHeartbeats 4000000 in
theorem heldSS0 (a : Option Addr) (c : Nat) (w : World) : Calls Try.prog 36 #[.slice a 0 c, .int .i64 1] w fun r w' => r = .returned (.int .i64 1) ∧ w' = w := by
  go_enter Try.func36, Try.ntmps36
  go_wp2
  refine wp_loop_rounds 1 ?_
  rw [rounds_succ]
  go_wp2
  go_ret
  exact ⟨rfl, rfl⟩
set_option maxRecDepth 100000 in
set_option maxHeartbeats 4000000 in
theorem markSSr {w : World} {n o c : Nat} {S : Nat → Value} {L : Nat → Nat} {F : Nat → Nat → Int} (X : Own w o n S) (rx : ∀ i, i < n → URow w (S i) (L i) (F i)) (sep : Sep (.slice (some ⟨o, 0, none⟩) n c) n S) (hn : n ≤ 1048576) (hL : ∀ i, i < n → L i ≤ 1048576) (hc : cumL L n ≤ 1048577) (B : Nat) (hB : B ≤ w.heap.size) (hS : ∀ i, i < n → ∀ g, (S i).ownBlock = some g → B ≤ g) :
    Calls Try.prog 30 #[.slice (some ⟨o, 0, none⟩) n c, .int .i64 1] w fun r w' => r = .returned (.int .i64 (cumL L n : Nat)) ∧ (Own w' o n S ∧ ∀ i, i < n → URow w' (S i) (L i) (mkSS L i)) ∧ Below B w w' := by
  have HL : Hid (∀ i, i < n → L i ≤ 1048576 ∧ cumL L i ≤ 1048577 ∧ cumL L (i + 1) = cumL L i + L i) := fun i hi => ⟨hL i hi, by have := cumL_le L i n (by omega); omega, rfl⟩
  have HSep : Hid (Sep (.slice (some ⟨o, 0, none⟩) n c) n S) := sep
  have HB : Hid (∀ i, i < n → ∀ g, (S i).ownBlock = some g → B ≤ g) := hS
  clear hL hc sep hS
  go_enter Try.func30, Try.ntmps30
  go_wp2
  go_loopw [1, 5] (fun l i wr => ∃ k : Nat, k ≤ n ∧ i = .int .i64 k ∧ l = .int .i64 (cumL L k : Nat) ∧ Own wr o n S ∧ Hid (∀ i, i < n → URow wr (S i) (L i) (if i < k then mkSS L i else F i)) ∧ Below B w wr) (fun _ i _ => n - (intOf i).toNat)
  case atStart => exact ⟨0, by omega, rfl, rfl, X, fun i hi => by rw [if_neg (by omega)]; exact rx i hi, Below.refl _ _⟩
  case round =>
    obtain ⟨k, hk, rfl, rfl, OX, HR, BX⟩ := hrel
    by_cases hkn : k < n
    · have i1 : (k : Int) < (n : Int) := by omega
      have i0 : (0 : Int) ≤ (k : Int) := by omega
      have rk := HR.out k hkn
      rw [if_neg (by omega)] at rk
      have a0 := OX.cell k hkn
      obtain ⟨l1, l2, l3⟩ := HL.out k hkn
      have hm := markUV rk (cumL L k) l1 l2
      obtain ⟨x, lx, cx, ex⟩ := rk.is
      have HO : Hid (Own wr o n S) := OX
      have HC : Hid (∀ w', (∀ B', B' ≤ wr.heap.size → (∀ g, (S k).ownBlock = some g → B' ≤ g) → Below B' wr w') → (∀ p, (S k).ownBlock ≠ some p → ∀ (o n : Nat) (f : Nat → Value), p = o → Own wr o n f → Own w' o n f) → URow w' (S k) (L k) (fun j => ((cumL L k + j : Nat) : Int)) → Own w' o n S ∧ (∀ i, i < n → URow w' (S i) (L i) (if i < k + 1 then mkSS L i else F i)) ∧ Below B w w') := fun w' hb ho hu => by
        refine ⟨ho o (fun e => HSep.out.one k hkn o e rfl) o n S rfl HO.out, fun i hi => ?_, BX.trans (hb B (by have := BX.size; omega) (HB.out k hkn))⟩
        by_cases e : i = k
        · subst e
          rw [if_pos (by omega)]
          exact hu
        · have ri := HR.out i hi
          have e2 : (if i < k + 1 then mkSS L i else F i) = if i < k then mkSS L i else F i := by
            by_cases h : i < k
            · rw [if_pos h, if_pos (by omega)]
            · rw [if_neg h, if_neg (by omega)]
          rw [e2]
          rcases ri with h0 | ⟨g, cg, eg, Og⟩
          · exact Or.inl h0
          · exact Or.inr ⟨g, cg, eg, ho g (fun e3 => HSep.out.two k i hkn hi (fun h => e h.symm) g e3 (by rw [eg]; rfl)) g _ _ rfl Og⟩
      rw [ex] at a0
      rw [← l3] at hm
      obtain ⟨N1, hN1⟩ : ∃ x, cumL L (k + 1) = x := ⟨_, rfl⟩
      rw [hN1] at hm
      have HN1 : Hid (cumL L (k + 1) = N1) := hN1
      obtain ⟨N0, hN0⟩ : ∃ x, cumL L k = x := ⟨_, rfl⟩
      rw [hN0] at hm HC ⊢
      rw [ex] at hm HC
      have HMk : Hid (Calls Try.prog 72 #[.slice x lx cx, .int .i64 (N0 : Nat)] wr fun r w' => r = .returned (.int .i64 (N1 : Nat)) ∧ URow w' (.slice x lx cx) (L k) (fun j => ((N0 + j : Nat) : Int)) ∧ (∀ p, (Value.slice x lx cx).ownBlock ≠ some p → ∀ (o n : Nat) (f : Nat → Value), p = o → Own wr o n f → Own w' o n f) ∧ ∀ B, B ≤ wr.heap.size → (∀ g, (Value.slice x lx cx).ownBlock = some g → B ≤ g) → Below B wr w') := hm
      clear hm hN0 hN1 ex rk l3 OX HR
      go_wp2_with (go_at_call 72; refine HMk.out.mono ?_; rintro e w2 ⟨rfl, u2, o2, b2⟩)
      obtain ⟨q1, q2, q3⟩ := HC.out w2 b2 o2 u2
      go_roundw
      case rel => exact ⟨k + 1, by omega, by go_num, by rw [HN1.out], q1, q2, q3⟩
      case measure => simp [intOf]; omega
    · have hkk : k = n := by omega
      subst hkk
      go_wp2
      go_ret
      exact ⟨rfl, ⟨OX, fun i hi => by have := HR.out i hi; rw [if_pos hi] at this; exact this⟩, BX⟩
theorem markSS {w : World} {v : Value} {n : Nat} {S : Nat → Value} {L : Nat → Nat} {F : Nat → Nat → Int} (X : SS w v n S L F) (sep : Sep v n S) (hn : n ≤ 1048576) (hL : ∀ i, i < n → L i ≤ 1048576) (hc : cumL L n ≤ 1048577) (B : Nat) (hB : B ≤ w.heap.size) (hS : ∀ i, i < n → ∀ g, (S i).ownBlock = some g → B ≤ g) :
    Calls Try.prog 30 #[v, .int .i64 1] w fun r w' => r = .returned (.int .i64 (cumL L n : Nat)) ∧ SS w' v n S L (mkSS L) ∧ Below B w w' := by
  rcases X.top with ⟨rfl, rfl⟩ | ⟨o, c, rfl, O⟩
  · exact (markSS0 none 0 w).mono fun e w' ⟨h1, h2⟩ => ⟨h1, ⟨Or.inl ⟨rfl, rfl⟩, fun i hi => by omega⟩, by rw [h2]; exact Below.refl _ _⟩
  · exact (markSSr O X.row sep hn hL hc B hB hS).mono fun e w' ⟨h1, h2, h3⟩ => ⟨h1, ⟨Or.inr ⟨o, c, rfl, h2.1⟩, h2.2⟩, h3⟩
set_option maxRecDepth 100000 in
set_option maxHeartbeats 4000000 in
theorem heldSSr {w : World} {n o c : Nat} {S : Nat → Value} {L : Nat → Nat} (X : Own w o n S) (rx : ∀ i, i < n → URow w (S i) (L i) (mkSS L i)) (hn : n ≤ 1048576) (hL : ∀ i, i < n → L i ≤ 1048576) (hc : cumL L n ≤ 1048577) :
    Calls Try.prog 36 #[.slice (some ⟨o, 0, none⟩) n c, .int .i64 1] w fun r w' => r = .returned (.int .i64 (cumL L n : Nat)) ∧ w' = w := by
  have HL : Hid (∀ i, i < n → (∃ x l c, S i = .slice x l c) ∧ cumL L (i + 1) = cumL L i + L i ∧ Calls Try.prog 74 #[S i, .int .i64 (cumL L i : Nat)] w fun r w' => r = .returned (.int .i64 ((cumL L i + L i : Nat) : Int)) ∧ w' = w) := fun i hi => ⟨(rx i hi).is, rfl, heldUV (cumL L i) (rx i hi) (hL i hi) (by have := cumL_le L i n (by omega); omega)⟩
  clear hL hc rx
  go_enter Try.func36, Try.ntmps36
  go_wp2
  go_loop [1, 5] (fun l i => ∃ k : Nat, k ≤ n ∧ i = .int .i64 k ∧ l = .int .i64 (cumL L k : Nat)) (fun _ i => n - (intOf i).toNat)
  case atStart => exact ⟨0, by omega, rfl, rfl⟩
  case round =>
    obtain ⟨k, hk, rfl, rfl⟩ := hrel
    by_cases hkn : k < n
    · have i1 : (k : Int) < (n : Int) := by omega
      have i0 : (0 : Int) ≤ (k : Int) := by omega
      have a0 := X.cell k hkn
      obtain ⟨⟨x, lx, cx, ex⟩, l3, hh⟩ := HL.out k hkn
      rw [ex] at a0 hh
      rw [← l3] at hh
      obtain ⟨N1, hN1⟩ : ∃ x, cumL L (k + 1) = x := ⟨_, rfl⟩
      obtain ⟨N0, hN0⟩ : ∃ x, cumL L k = x := ⟨_, rfl⟩
      rw [hN1, hN0] at hh
      rw [hN0]
      have HN1 : Hid (cumL L (k + 1) = N1) := hN1
      have HH : Hid (Calls Try.prog 74 #[.slice x lx cx, .int .i64 (N0 : Nat)] w fun r w' => r = .returned (.int .i64 (N1 : Nat)) ∧ w' = w) := hh
      clear hh hN0 hN1 ex l3
      go_wp2_with (go_at_call 74; refine HH.out.mono ?_; rintro e w' ⟨rfl, hw⟩; subst w')
      go_round
      case rel => exact ⟨k + 1, by omega, by go_num, by rw [HN1.out]⟩
      case measure => simp [intOf]; omega
    · have hkk : k = n := by omega
      subst hkk
      go_wp2
      go_ret
      exact ⟨rfl, rfl⟩
theorem heldSS {w : World} {v : Value} {n : Nat} {S : Nat → Value} {L : Nat → Nat} (X : SS w v n S L (mkSS L)) (hn : n ≤ 1048576) (hL : ∀ i, i < n → L i ≤ 1048576) (hc : cumL L n ≤ 1048577) :
    Calls Try.prog 36 #[v, .int .i64 1] w fun r w' => r = .returned (.int .i64 (cumL L n : Nat)) ∧ w' = w := by
  rcases X.top with ⟨rfl, rfl⟩ | ⟨o, c, rfl, O⟩
  · exact heldSS0 none 0 w
  · exact heldSSr O X.row hn hL hc
end Go.Proofs.Yteakeaclpcgopaa
