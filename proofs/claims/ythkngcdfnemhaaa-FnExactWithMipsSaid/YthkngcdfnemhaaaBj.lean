/- Textures that are answered: compared, marked, held. -/
import Derived.Test.YthkngcdfnemhaaaBe
import Derived.Test.YthkngcdfnemhaaaAy
namespace Go.Proofs.Ythkngcdfnemhaaa
open Go.ChangeShapes Go.WideShapes Go.ChangeAt Go.RowKit
set_option linter.unusedVariables false
theorem Y8.yrow {B : Nat} {w : World} {v : Value} {L : List Int} (h : Y8 B w v L) : YRow w v L.length (fun i => L.getD i 0) := by
  have h1 := h.1
  rcases h1.2 with ⟨rfl, h0⟩ | ⟨g, cap, cur, rfl, _⟩
  · exact Or.inl ⟨h0, rfl⟩
  · refine Or.inr ⟨g, cap, rfl, fun i hi => ?_, fun i => h1.frozenAt i, (h1.lt g rfl).2⟩
    rw [h1.cellAt i (by omega)]
    simp [bl, List.getD, hi]
theorem YRow.grown {w w' : World} {u : Value} {L : Nat} {F : Nat → Int} {row : Option Nat} (h : YRow w u L F) (hb : w.grownBy w' row) (hne : u.ownBlock = none ∨ u.ownBlock ≠ row) : YRow w' u L F := by
  rcases h with h | ⟨o, c, rfl, O⟩
  · exact Or.inl h
  · refine Or.inr ⟨o, c, rfl, ?_⟩
    have hz := O.hi
    have hn : some o ≠ row := by simpa [Value.ownBlock] using hne
    have b := hb.block o hz hn
    exact ⟨fun i hi => (World.cell?_of_block (w := w) (a := ⟨o, i, none⟩) b).trans (O.cell i hi), fun i => (World.frozen?_of_block (w := w) (a := ⟨o, i, none⟩) b).trans (O.free i), Nat.lt_of_lt_of_le hz hb.size⟩
/-- A table of rows of bytes, in blocks B to C. -/
structure TX (B C : Nat) (w : World) (lv : Value) (m : Nat) (us : Nat → Value) (len : Nat → Nat) (F : Nat → Nat → Int) : Prop where
  v : (m = 0 ∧ lv = .slice none 0 0) ∨ ∃ z c, lv = .slice (some ⟨z, 0, none⟩) m c ∧ (B ≤ z ∧ z < C) ∧ (∀ i, i < m → w.cell? ⟨z, i, none⟩ = some (us i)) ∧ ∀ i, i < m → (us i).ownBlock ≠ some z
  r : ∀ i, i < m → YRow w (us i) (len i) (F i)
  k : ∀ i g, i < m → (us i).ownBlock = some g → B ≤ g ∧ g < C
  d : ∀ i j g g', i < j → j < m → (us i).ownBlock = some g → (us j).ownBlock = some g' → g < g'
  hi : C ≤ w.heap.size
theorem TX.is {B C : Nat} {w : World} {lv : Value} {m : Nat} {us : Nat → Value} {len : Nat → Nat} {F : Nat → Nat → Int} (h : TX B C w lv m us len F) : ∃ a n c, lv = .slice a n c := by
  rcases h.v with ⟨_, rfl⟩ | ⟨z, c, rfl, _⟩
  · exact ⟨_, _, _, rfl⟩
  · exact ⟨_, _, _, rfl⟩
theorem TX.block {B C : Nat} {w : World} {lv : Value} {m : Nat} {us : Nat → Value} {len : Nat → Nat} {F : Nat → Nat → Int} {w' : World} (h : TX B C w lv m us len F) (b : ∀ k, B ≤ k → k < C → w'.heap[k]? = w.heap[k]?) (hs : w.heap.size ≤ w'.heap.size) : TX B C w' lv m us len F := by
  refine ⟨?_, fun i hi => ?_, h.k, h.d, Nat.le_trans h.hi hs⟩
  · rcases h.v with h1 | ⟨z, c, e, hz, hc, hn⟩
    · exact Or.inl h1
    · exact Or.inr ⟨z, c, e, hz, fun i hi => (World.cell?_of_block (w := w) (a := ⟨z, i, none⟩) (b z hz.1 hz.2)).trans (hc i hi), hn⟩
  · have hk := h.k i
    rcases h.r i hi with h1 | ⟨g, c, e, O⟩
    · exact Or.inl h1
    · have hg := hk g hi (by rw [e]; rfl)
      have bb := b g hg.1 hg.2
      exact Or.inr ⟨g, c, e, ⟨fun j hj => (World.cell?_of_block (w := w) (a := ⟨g, j, none⟩) bb).trans (O.cell j hj), fun j => (World.frozen?_of_block (w := w) (a := ⟨g, j, none⟩) bb).trans (O.free j), Nat.lt_of_lt_of_le O.hi hs⟩⟩
theorem TX.next {B C : Nat} {w : World} {lv : Value} {m : Nat} {us : Nat → Value} {len : Nat → Nat} {F : Nat → Nat → Int} {w' : World} (h : TX B C w lv m us len F) (b : Below w.heap.size w w') : TX B C w' lv m us len F := h.block (fun k _ hk => b.block k (by have := h.hi; omega)) b.size
theorem TX.low {B C : Nat} {w : World} {lv : Value} {m : Nat} {us : Nat → Value} {len : Nat → Nat} {F : Nat → Nat → Int} {w' : World} {D : Nat} (h : TX B C w lv m us len F) (b : Below D w w') (hD : C ≤ D) : TX B C w' lv m us len F := h.block (fun k _ hk => b.block k (by omega)) b.size
theorem MpA.tx {B : Nat} {w : World} {a : Value} {s y l : Int} {Cs : List Col} {us : List Value} (h : MpA B w a s y l Cs us) : ∃ lv, a = .agg #[.int .i64 (if wmB s y l Cs then s else 0), .int .i64 (if wmB s y l Cs then y else 0), .int .i64 (if wmB s y l Cs then l else 0), lv] ∧ TX B w.heap.size w lv (if wmB s y l Cs then lcN s y else 0) (fun i => us.getD i (.slice Option.none 0 0)) (fun i => (mpF l s y (lv0 l Cs) i).length) (fun i j => (mpF l s y (lv0 l Cs) i).getD j 0) ∧ B ≤ w.heap.size := by
  obtain ⟨lv, e, T, hl, V⟩ := h
  refine ⟨lv, e, ?_, T.2⟩
  rw [← hl]
  refine ⟨?_, fun i hi => (V.r i hi).yrow, fun i g hi hg => V.lt i g hi hg, fun i j g g' => V.m i j g g', Nat.le_refl _⟩
  have h1 := T.1
  rcases h1.2 with ⟨rfl, h0⟩ | ⟨g, cap, cur, rfl, _⟩
  · exact Or.inl ⟨h0, rfl⟩
  · refine Or.inr ⟨g, cap, rfl, h1.lt g rfl, fun i hi => ?_, fun i hi e => kne (V.r i hi).1 h1 (by decide) g e rfl⟩
    rw [h1.cellAt i (by omega)]
    simp [List.getD, hi]
theorem TX.cells {B C z c : Nat} {w : World} {m : Nat} {us : Nat → Value} {len : Nat → Nat} {F : Nat → Nat → Int} (h : TX B C w (.slice (some ⟨z, 0, none⟩) m c) m us len F) : ∀ i, i < m → w.cell? ⟨z, i, none⟩ = some (us i) := by
  rcases h.v with ⟨_, e⟩ | ⟨z', c', e, _, hc, _⟩
  · cases e
  · injection e with e
    injection e with e
    injection e with e
    subst e
    exact hc
theorem TX.step {B C : Nat} {w : World} {lv : Value} {m : Nat} {us : Nat → Value} {len : Nat → Nat} {F : Nat → Nat → Int} {w' : World} {k : Nat} {F' : Nat → Nat → Int} (h : TX B C w lv m us len F) (hk : k < m) (g : w.grownBy w' (us k).ownBlock) (Y : YRow w' (us k) (len k) (F' k)) (hF : ∀ i, i < m → i ≠ k → F' i = F i) : TX B C w' lv m us len F' := by
  refine ⟨?_, fun i hi => ?_, h.k, h.d, Nat.le_trans h.hi g.size⟩
  · rcases h.v with h1 | ⟨z, c, e, hz, hc, hn⟩
    · exact Or.inl h1
    · exact Or.inr ⟨z, c, e, hz, fun i hi => (World.cell?_of_block (w := w) (a := ⟨z, i, none⟩) (g.block z (by have := h.hi; omega) (fun e => hn k hk e.symm))).trans (hc i hi), hn⟩
  · by_cases e : i = k
    · subst e; exact Y
    · rw [hF i hi e]
      refine (h.r i hi).grown g ?_
      cases ei : (us i).ownBlock with
      | none => exact Or.inl rfl
      | some q =>
        refine Or.inr (fun e2 => ?_)
        rcases Nat.lt_or_gt_of_ne e with h1 | h1
        · have := h.d i k q q h1 hk ei e2.symm; omega
        · have := h.d k i q q h1 hi e2.symm ei; omega
theorem Btw.grown {B C : Nat} {a w w' : World} {row : Option Nat} (h : Btw B C a w) (g : w.grownBy w' row) (hr : ∀ q, row = some q → B ≤ q ∧ q < C) : Btw B C a w' := h.trans ⟨g.os, g.tape, g.output, g.size, fun i hi q => g.block i hi (fun e => by have := hr i e.symm; omega)⟩
theorem Btw.ofBelow {B C : Nat} {a w : World} (h : Below a.heap.size a w) : Btw B C a w := ⟨h.os, h.tape, h.output, h.size, fun i hi _ => h.block i hi⟩
def st (len : Nat → Nat) : Nat → Nat
  | 0 => 1
  | k + 1 => st len k + len k
theorem st_le {len : Nat → Nat} {m : Nat} (hl : ∀ i, i < m → len i ≤ 100000) : ∀ k, k ≤ m → st len k ≤ 1 + 100000 * k
  | 0, _ => Nat.le_refl _
  | k + 1, h => by
    have h1 := st_le hl k (by omega)
    have h2 := hl k (by omega)
    rw [st]; omega
/-- What a row is marked with. -/
def mkF (len : Nat → Nat) (i j : Nat) : Int := ((st len i + j : Nat) : Int) % 256
theorem markYK {w : World} {u : Value} {L : Nat} {F : Nat → Int} (X : YRow w u L F) (hL : L ≤ 1048576) (k0 : Nat) (hk0 : k0 ≤ 10000000) : Calls Try.prog 17 #[u, .int .i64 (k0 : Int)] w fun r w' => r = .returned (.int .i64 ((k0 + L : Nat) : Int)) ∧ YRow w' u L (fun i => ((k0 + i : Nat) : Int) % 256) ∧ w.grownBy w' u.ownBlock := by
  rcases X with ⟨rfl, rfl⟩ | ⟨g, c, rfl, X⟩
  · exact (markY0 none 0 k0 w).mono fun e w' ⟨h1, h2⟩ => ⟨h1, Or.inl ⟨rfl, rfl⟩, by rw [h2]; exact grown_refl _ _⟩
  · exact (markY X c k0 hL hk0).mono fun e w' ⟨h1, h2, h3⟩ => ⟨h1, Or.inr ⟨g, c, rfl, h2⟩, only_grown h3⟩
theorem heldYK {w : World} {u : Value} {L : Nat} {k0 : Nat} (X : YRow w u L (fun i => ((k0 + i : Nat) : Int) % 256)) (hL : L ≤ 1048576) (hk0 : k0 ≤ 10000000) : Calls Try.prog 18 #[u, .int .i64 (k0 : Int)] w fun r w' => r = .returned (.int .i64 ((k0 + L : Nat) : Int)) ∧ w' = w := by
  rcases X with ⟨rfl, rfl⟩ | ⟨g, c, rfl, X⟩
  · exact (heldY0 none 0 k0 w).mono fun e w' ⟨h1, h2⟩ => ⟨h1, h2⟩
  · exact heldY c k0 X hL hk0
set_option maxRecDepth 100000 in
set_option maxHeartbeats 2000000 in
theorem markTT {B C : Nat} {w : World} {lv : Value} {m : Nat} {us : Nat → Value} {len : Nat → Nat} {F : Nat → Nat → Int} (T : TX B C w lv m us len F) (hm : m ≤ 50) (hl : ∀ i, i < m → len i ≤ 100000) :
    Calls Try.prog 59 #[lv, .int .i64 1] w fun r w' => r = .returned (.int .i64 ((st len m : Nat) : Int)) ∧ TX B C w' lv m us len (mkF len) ∧ Btw B C w w' := by
  rcases T.v with ⟨rfl, rfl⟩ | ⟨z, c, rfl, hz, -, -⟩
  · have HT : Hid (TX B C w (.slice none 0 0) 0 us len (mkF len)) := ⟨Or.inl ⟨rfl, rfl⟩, fun i hi => absurd hi (Nat.not_lt_zero _), T.k, T.d, T.hi⟩
    clear T
    go_enter Try.func59, Try.ntmps59
    go_wp2
    refine wp_loop_rounds 1 ?_
    rw [rounds_succ]
    go_wp2
    go_ret
    exact ⟨rfl, HT.out, Btw.refl _ _ _⟩
  · have HS := Hid.mk (st_le hl)
    have HL := Hid.mk hl
    have HT : Hid (TX B C w (.slice (some ⟨z, 0, none⟩) m c) m us len (fun i => if i < 0 then mkF len i else F i) ∧ Btw B C w w) := ⟨⟨T.v, fun i hi => by rw [if_neg (Nat.not_lt_zero _)]; exact T.r i hi, T.k, T.d, T.hi⟩, Btw.refl _ _ _⟩
    clear T hl
    go_enter Try.func59, Try.ntmps59
    go_wp2
    go_loopw [1, 5] (fun q i wr => ∃ k : Nat, k ≤ m ∧ i = .int .i64 (k : Int) ∧ q = .int .i64 ((st len k : Nat) : Int) ∧ Hid (TX B C wr (.slice (some ⟨z, 0, none⟩) m c) m us len (fun i => if i < k then mkF len i else F i) ∧ Btw B C w wr)) (fun _ i _ => m - (intOf i).toNat)
    case atStart => exact ⟨0, by omega, rfl, rfl, HT⟩
    case round =>
      clear HT
      obtain ⟨k, hk, rfl, rfl, HT⟩ := hrel
      by_cases hkn : k < m
      · have i1 : (k : Int) < (m : Int) := by omega
        have i0 : (0 : Int) ≤ (k : Int) := by omega
        have hc := HT.out.1.cells k hkn
        obtain ⟨ua, ul, uc, hu⟩ := (HT.out.1.r k hkn).is
        have HM := Hid.mk (markYK (HT.out.1.r k hkn) (by have := HL.out k hkn; omega) (st len k) (by have := HS.out k hk; omega))
        rw [hu] at hc
        obtain ⟨M, hM⟩ : ∃ M, st len k + len k = M := ⟨_, rfl⟩
        rw [hM] at HM
        have HMM := Hid.mk hM
        have HU := Hid.mk hu
        have HM2 : Hid (Calls Try.prog 17 #[.slice ua ul uc, .int .i64 ((st len k : Nat) : Int)] wr fun r w' => r = .returned (.int .i64 (M : Int)) ∧ YRow w' (us k) (len k) (fun i => ((st len k + i : Nat) : Int) % 256) ∧ wr.grownBy w' (us k).ownBlock) := by show Calls _ _ _ _ _; rw [← HU.out]; exact HM.out
        clear hM hu HM
        generalize hS0 : st len k = S0 at HM2 ⊢
        have HS0 := Hid.mk hS0
        clear hS0
        go_wp2_with (go_at_call 17; refine HM2.out.mono ?_; rintro e w2 ⟨rfl, Y2, G2⟩; skip)
        go_roundw
        case rel =>
          have G3 : Btw B C w w2 := HT.out.2.grown G2 (fun q hq => HT.out.1.k k q hkn hq)
          exact ⟨k + 1, by omega, by go_num, by rw [← HMM.out]; rfl, ⟨HT.out.1.step (F' := fun i => if i < k + 1 then mkF len i else F i) hkn G2 (by simp only [if_pos (Nat.lt_succ_self k)]; show YRow w2 (us k) (len k) (fun j => ((st len k + j : Nat) : Int) % 256); rw [HS0.out]; exact Y2) (fun i hi hne => by
            by_cases e : i < k
            · rw [if_pos e, if_pos (by omega)]
            · rw [if_neg e, if_neg (by omega)]), G3⟩⟩
        case measure => simp [intOf]; omega
      · obtain rfl : m = k := by omega
        have i1 : ¬ (m : Int) < (m : Int) := by omega
        have HF : Hid (TX B C wr (.slice (some ⟨z, 0, none⟩) m c) m us len (mkF len) ∧ Btw B C w wr) := ⟨⟨HT.out.1.v, fun i hi => by have := HT.out.1.r i hi; simpa only [if_pos hi] using this, HT.out.1.k, HT.out.1.d, HT.out.1.hi⟩, HT.out.2⟩
        clear HT
        go_wp2
        go_ret
        exact ⟨rfl, HF.out.1, HF.out.2⟩
set_option maxRecDepth 100000 in
set_option maxHeartbeats 2000000 in
theorem heldTT {B C : Nat} {w : World} {lv : Value} {m : Nat} {us : Nat → Value} {len : Nat → Nat} (T : TX B C w lv m us len (mkF len)) (hm : m ≤ 50) (hl : ∀ i, i < m → len i ≤ 100000) :
    Calls Try.prog 60 #[lv, .int .i64 1] w fun r w' => r = .returned (.int .i64 ((st len m : Nat) : Int)) ∧ w' = w := by
  rcases T.v with ⟨rfl, rfl⟩ | ⟨z, c, rfl, hz, -, -⟩
  · clear T
    go_enter Try.func60, Try.ntmps60
    go_wp2
    refine wp_loop_rounds 1 ?_
    rw [rounds_succ]
    go_wp2
    go_ret
    exact ⟨rfl, rfl⟩
  · have HS := Hid.mk (st_le hl)
    have HL := Hid.mk hl
    have HT := Hid.mk T
    clear T hl
    go_enter Try.func60, Try.ntmps60
    go_wp2
    go_loopw [1, 5] (fun q i wr => ∃ k : Nat, k ≤ m ∧ i = .int .i64 (k : Int) ∧ q = .int .i64 ((st len k : Nat) : Int) ∧ wr = w) (fun _ i _ => m - (intOf i).toNat)
    case atStart => exact ⟨0, by omega, rfl, rfl, rfl⟩
    case round =>
      obtain ⟨k, hk, rfl, rfl, hwr⟩ := hrel
      subst wr
      by_cases hkn : k < m
      · have i1 : (k : Int) < (m : Int) := by omega
        have i0 : (0 : Int) ≤ (k : Int) := by omega
        have hc := HT.out.cells k hkn
        obtain ⟨ua, ul, uc, hu⟩ := (HT.out.r k hkn).is
        have HM := Hid.mk (heldYK (k0 := st len k) (HT.out.r k hkn) (by have := HL.out k hkn; omega) (by have := HS.out k hk; omega))
        rw [hu] at hc HM
        obtain ⟨M, hM⟩ : ∃ M, st len k + len k = M := ⟨_, rfl⟩
        rw [hM] at HM
        have HMM := Hid.mk hM
        have m0 : ¬ (M : Int) < 0 := by omega
        clear hM hu
        generalize hS0 : st len k = S0 at HM ⊢
        clear hS0
        go_wp2_with (go_at_call 18; refine HM.out.mono ?_; rintro e w2 ⟨rfl, hw⟩; subst w2)
        go_roundw
        case rel => exact ⟨k + 1, by omega, by go_num, by rw [← HMM.out]; rfl, by first | rfl | trivial⟩
        case measure => simp [intOf]; omega
      · obtain rfl : m = k := by omega
        have i1 : ¬ (m : Int) < (m : Int) := by omega
        go_wp2
        go_ret
        exact ⟨rfl, rfl⟩
set_option maxRecDepth 100000 in
set_option maxHeartbeats 4000000 in
theorem eqTT {B C : Nat} {w : World} {lv : Value} {m : Nat} {us : Nat → Value} {len : Nat → Nat} {F : Nat → Nat → Int} {B' C' : Nat} {lw : Value} {vs : Nat → Value} (X : TX B C w lv m us len F) (Y : TX B' C' w lw m vs len F) (hm : m ≤ 50) (hl : ∀ i, i < m → len i ≤ 100000) :
    Calls Try.prog 54 #[lv, lw] w fun r w' => r = .returned (.bool true) ∧ Below w.heap.size w w' := by
  rcases X.v with ⟨rfl, rfl⟩ | ⟨z, c, rfl, hz, -, -⟩
  · have hw : ∃ a c, lw = .slice a 0 c := by
      rcases Y.v with ⟨_, rfl⟩ | ⟨z, c, rfl, _⟩
      · exact ⟨_, _, rfl⟩
      · exact ⟨_, _, rfl⟩
    obtain ⟨a', c', rfl⟩ := hw
    clear X Y
    go_enter Try.func54, Try.ntmps54
    go_wp2
    refine wp_loop_rounds 1 ?_
    rw [rounds_succ]
    go_wp2
    go_ret
    exact ⟨rfl, Below.refl _ _⟩
  rcases Y.v with ⟨rfl, rfl⟩ | ⟨z', c', rfl, hz', -, -⟩
  · clear X Y
    go_enter Try.func54, Try.ntmps54
    go_wp2
    refine wp_loop_rounds 1 ?_
    rw [rounds_succ]
    go_wp2
    go_ret
    exact ⟨rfl, Below.refl _ _⟩
  have ha := Hid.mk X
  have hb := Hid.mk Y
  have hL := Hid.mk hl
  clear X Y hl
  go_enter Try.func54, Try.ntmps54
  go_wp2
  go_loopw [5] (fun i wx => ∃ k : Nat, k ≤ m ∧ i = .int .i64 k ∧ Below w.heap.size w wx) (fun i _ => m - (intOf i).toNat)
  case atStart => exact ⟨0, by omega, rfl, Below.refl _ _⟩
  case round =>
    obtain ⟨k, hk, rfl, B1⟩ := hrel
    by_cases hkn : k < m
    · have d1 := cell_nx (ha.out.cells k hkn) B1
      have d2 := cell_nx (hb.out.cells k hkn) B1
      obtain ⟨ua, ul, uc, hu⟩ := (ha.out.r k hkn).is
      obtain ⟨va, vl, vc, hv⟩ := (hb.out.r k hkn).is
      have h25 : ∀ v, Below w.heap.size w v → Calls Try.prog 16 #[.slice ua ul uc, .slice va vl vc] v fun r w' => r = .returned (.bool true) ∧ Below v.heap.size v w' := fun v b => by
        rw [← hu, ← hv]
        exact eqYV ((ha.out.r k hkn).next b) ((hb.out.r k hkn).next b) (by have := hL.out k hkn; omega)
      rw [hu] at d1
      rw [hv] at d2
      clear hu hv
      have BD : Below w.heap.size w wr.drew := below_drew B1
      have i0 : (0 : Int) ≤ (k : Int) := by omega
      have i1 : (k : Int) < (m : Int) := by omega
      go_wp2
      go_region_with (go_at_call 16; refine (h25 _ ?_).mono ?_; (focus (first | with_reducible exact BD | with_reducible exact B1)); rintro e w2 ⟨rfl, B2⟩; (have B3 : Below wr.heap.size wr w2 := by first | exact B2 | exact (below_drew (Below.refl _ _)).trans B2))
      all_goals
        go_wp2
        go_roundw
        case rel => exact ⟨k + 1, by omega, by go_num, B1.trans (B3.mono B1.size)⟩
        case measure => simp [intOf]; omega
    · have hkk : k = m := by omega
      subst hkk
      go_wp2
      go_ret
      exact ⟨rfl, B1⟩
set_option maxRecDepth 100000 in
set_option maxHeartbeats 1000000 in
theorem eqXT {B C : Nat} {w : World} {lv : Value} {m : Nat} {us : Nat → Value} {len : Nat → Nat} {F : Nat → Nat → Int} {B' C' : Nat} {lw : Value} {vs : Nat → Value} (s y l : Int) (X : TX B C w lv m us len F) (Y : TX B' C' w lw m vs len F) (hm : m ≤ 50) (hl : ∀ i, i < m → len i ≤ 100000) : Calls Try.prog 27 #[.agg #[.int .i64 s, .int .i64 y, .int .i64 l, lv], .agg #[.int .i64 s, .int .i64 y, .int .i64 l, lw]] w fun e w' => e = .returned (.bool true) ∧ Below w.heap.size w w' := by
  obtain ⟨ga, gn, gc, rfl⟩ := X.is
  obtain ⟨ha, hn, hc, rfl⟩ := Y.is
  have HE : Hid (∀ w', Below w.heap.size w w' → Calls Try.prog 54 #[.slice ga gn gc, .slice ha hn hc] w' fun r w'' => r = .returned (.bool true) ∧ Below w'.heap.size w' w'') := fun w' b => eqTT (X.next b) (Y.next b) hm hl
  have HB : Hid (Below w.heap.size w ((w.alloc (.cells #[.int .i64 s, .int .i64 y, .int .i64 l, .slice ga gn gc] 43)).alloc (.cells #[.int .i64 s, .int .i64 y, .int .i64 l, .slice ha hn hc] 43))) := b2
  clear X Y hl
  go_enter Try.func27, Try.ntmps27
  go_wp2_with (go_at_call 54; refine (HE.out _ HB.out).mono ?_; rintro e w2 ⟨rfl, B2⟩; (have BZ := HB.out.trans (B2.mono HB.out.size)))
  go_ret
  exact ⟨rfl, BZ⟩
set_option maxRecDepth 100000 in
set_option maxHeartbeats 1000000 in
theorem markXT {B C : Nat} {w : World} {lv : Value} {m : Nat} {us : Nat → Value} {len : Nat → Nat} {F : Nat → Nat → Int} (s y l : Int) (T : TX B C w lv m us len F) (hm : m ≤ 50) (hl : ∀ i, i < m → len i ≤ 100000) : Calls Try.prog 34 #[.agg #[.int .i64 s, .int .i64 y, .int .i64 l, lv], .int .i64 1] w fun e w' => e = .returned (.int .i64 ((st len m : Nat) : Int)) ∧ TX B C w' lv m us len (mkF len) ∧ Btw B C w w' := by
  obtain ⟨ga, gn, gc, rfl⟩ := T.is
  have HE : Hid (∀ w', Below w.heap.size w w' → Calls Try.prog 59 #[.slice ga gn gc, .int .i64 1] w' fun r w'' => r = .returned (.int .i64 ((st len m : Nat) : Int)) ∧ TX B C w'' (.slice ga gn gc) m us len (mkF len) ∧ Btw B C w' w'') := fun w' b => markTT (T.next b) hm hl
  have HB : Hid (Below w.heap.size w (w.alloc (.cells #[.int .i64 s, .int .i64 y, .int .i64 l, .slice ga gn gc] 43))) := alloc_b
  clear T hl
  generalize st len m = M at HE ⊢
  go_enter Try.func34, Try.ntmps34
  go_wp2_with (go_at_call 59; refine (HE.out _ HB.out).mono ?_; rintro e w2 ⟨rfl, T2, B2⟩; (have BZ := (Btw.ofBelow (B := B) (C := C) HB.out).trans B2))
  go_ret
  exact ⟨rfl, T2, BZ⟩
set_option maxRecDepth 100000 in
set_option maxHeartbeats 1000000 in
theorem heldXT {B C : Nat} {w : World} {lv : Value} {m : Nat} {us : Nat → Value} {len : Nat → Nat} (s y l : Int) (T : TX B C w lv m us len (mkF len)) (hm : m ≤ 50) (hl : ∀ i, i < m → len i ≤ 100000) : Calls Try.prog 35 #[.agg #[.int .i64 s, .int .i64 y, .int .i64 l, lv], .int .i64 1] w fun e w' => e = .returned (.int .i64 ((st len m : Nat) : Int)) ∧ Below w.heap.size w w' := by
  obtain ⟨ga, gn, gc, rfl⟩ := T.is
  have HE : Hid (∀ w', Below w.heap.size w w' → Calls Try.prog 60 #[.slice ga gn gc, .int .i64 1] w' fun r w'' => r = .returned (.int .i64 ((st len m : Nat) : Int)) ∧ w'' = w') := fun w' b => heldTT (T.next b) hm hl
  have HB : Hid (Below w.heap.size w (w.alloc (.cells #[.int .i64 s, .int .i64 y, .int .i64 l, .slice ga gn gc] 43))) := alloc_b
  clear T hl
  generalize st len m = M at HE ⊢
  have m0 : ¬ (M : Int) < 0 := by omega
  go_enter Try.func35, Try.ntmps35
  go_wp2_with (go_at_call 60; refine (HE.out _ HB.out).mono ?_; rintro e w2 ⟨rfl, hw⟩; subst w2)
  go_ret
  exact ⟨rfl, HB.out⟩
end Go.Proofs.Ythkngcdfnemhaaa
