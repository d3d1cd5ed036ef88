/- Rows of blocks as the laws copy them: copied, compared. -/
import Derived.Test.YtngmaeinehfimaaMa
namespace Go.Proofs.Ytngmaeinehfimaa
open Go.ChangeShapes Go.WideShapes Go.ChangeAt Go.RowKit
set_option linter.unusedVariables false
set_option maxRecDepth 100000 in
set_option maxHeartbeats 4000000 in
theorem toBk (u v : Value) (L H : List Int) (w : World) (U : ARow w u L) (V : ARow w v H) (hl : L.length ≤ 1048576) (hh : H.length ≤ 1048576) : Calls Try.prog 13 #[.agg #[u, v]] w fun r w' => ∃ g h, r = .returned (.agg #[.slice (some ⟨g, 0, none⟩) L.length L.length, .slice (some ⟨h, 0, none⟩) H.length H.length]) ∧ w.heap.size ≤ g ∧ g < h ∧ Own w' g L.length (fun i => .int .i64 (L.getD i 0)) ∧ Own w' h H.length (fun i => .int .i64 (H.getD i 0)) ∧ Below w.heap.size w w' := by
  have HU : Hid (∀ w', Below w.heap.size w w' → Calls Try.prog 49 #[u] w' fun r w'' => (∃ g, r = .returned (.slice (some ⟨g, 0, none⟩) L.length L.length) ∧ Own w'' g L.length (fun i => .int .i64 (L.getD i 0)) ∧ w'.heap.size ≤ g) ∧ Below w'.heap.size w' w'') := fun w' b => by
    have h := U.next b
    obtain ⟨ad, c, rfl, hx⟩ := h
    exact (toN27 (arow_arg ⟨ad, c, rfl, hx⟩) c hl).mono fun r w2 ⟨h1, h2, h3⟩ => ⟨⟨_, h1, h2, Nat.le_refl _⟩, h3⟩
  have HV : Hid (∀ w', Below w.heap.size w w' → Calls Try.prog 49 #[v] w' fun r w'' => (∃ g, r = .returned (.slice (some ⟨g, 0, none⟩) H.length H.length) ∧ Own w'' g H.length (fun i => .int .i64 (H.getD i 0)) ∧ w'.heap.size ≤ g) ∧ Below w'.heap.size w' w'') := fun w' b => by
    have h := V.next b
    obtain ⟨ad, c, rfl, hx⟩ := h
    exact (toN27 (arow_arg ⟨ad, c, rfl, hx⟩) c hh).mono fun r w2 ⟨h1, h2, h3⟩ => ⟨⟨_, h1, h2, Nat.le_refl _⟩, h3⟩
  obtain ⟨ad, c, rfl, -⟩ := U
  obtain ⟨bd, d, rfl, -⟩ := V
  generalize (fun i => Value.int IntKind.i64 (L.getD i 0)) = FL at HU ⊢
  generalize (fun i => Value.int IntKind.i64 (H.getD i 0)) = FH at HV ⊢
  generalize hLn : L.length = n at hl HU ⊢
  generalize hHm : H.length = m at hh HV ⊢
  clear hLn hHm
  obtain ⟨W, hW⟩ : ∃ W, ((w.alloc (.cells #[.slice ad n c, .slice bd m d] 24)).alloc (.cells #[.slice none 0 0, .slice none 0 0] 27)).alloc (.cells #[.slice none 0 0, .slice none 0 0] 27) = W := ⟨_, rfl⟩
  have HWB : Hid (Below w.heap.size w W ∧ W.heap.size = w.heap.size + 3) := by
    rw [← hW]
    exact ⟨((alloc_b).trans ((alloc_b).mono (by simp))).trans ((alloc_b).mono (by simp; omega)), by simp⟩
  have HC : Hid (∀ w', Below W.heap.size W w' → C2 w' w.heap.size (.slice ad n c) (.slice bd m d) ∧ C2 w' (w.heap.size + 1) (.slice none 0 0) (.slice none 0 0) ∧ C2 w' (w.heap.size + 1 + 1) (.slice none 0 0) (.slice none 0 0)) := fun w' b => by
    have h0 := C2.new w 24 (.slice ad n c) (.slice bd m d)
    have h1 := C2.new (w.alloc (.cells #[.slice ad n c, .slice bd m d] 24)) 27 (.slice none 0 0) (.slice none 0 0)
    have h2 := C2.new ((w.alloc (.cells #[.slice ad n c, .slice bd m d] 24)).alloc (.cells #[.slice none 0 0, .slice none 0 0] 27)) 27 (.slice none 0 0) (.slice none 0 0)
    have e1 : (w.alloc (.cells #[.slice ad n c, .slice bd m d] 24)).heap.size = w.heap.size + 1 := by simp
    have e2 : ((w.alloc (.cells #[.slice ad n c, .slice bd m d] 24)).alloc (.cells #[.slice none 0 0, .slice none 0 0] 27)).heap.size = w.heap.size + 1 + 1 := by simp
    rw [e1] at h1
    rw [e2] at h2
    rw [← hW] at b
    exact ⟨((h0.next alloc_b).next alloc_b).next b, (h1.next alloc_b).next b, h2.next b⟩
  subst hW
  go_enter Try.func13, Try.ntmps13
  go_wp2_with (first
    | (go_at_call 49; (with_reducible show Calls Try.prog 49 #[.slice ad n c] _ _); refine (HU.out _ HWB.out.1).mono ?_; rintro e w2 ⟨⟨g, rfl, O2, hg⟩, B2⟩; obtain ⟨P2, R2, Z2⟩ := HC.out w2 B2; (have hg2 : w.heap.size + 3 ≤ g := by have := HWB.out.2; omega); (have D2 := HWB.out.1.trans (B2.mono HWB.out.1.size)); clear hg HC HWB B2; (have z0 := Z2.c0); (have z1 := Z2.c1); (have zf := Z2.f); (have p0 := P2.c0); (have p1 := P2.c1))
    | (go_at_call 49; refine (HV.out _ (D2.setCell (p := ⟨w.heap.size + 1 + 1, 0, none⟩) (by simp; omega) _)).mono ?_; rintro e w3 ⟨⟨h, rfl, O3, hh3⟩, B3⟩; (have D3 := (D2.setCell (p := ⟨w.heap.size + 1 + 1, 0, none⟩) (by simp; omega) (.slice (some ⟨g, 0, none⟩) n n)).trans (B3.mono (by have := D2.size; simp; omega))); (have Z3 := (Z2.s0 (.slice (some ⟨g, 0, none⟩) n n)).next B3); (have R3 := (R2.far (w.heap.size + 1 + 1) 0 (.slice (some ⟨g, 0, none⟩) n n) (by omega)).next B3); (have O2n := (O2.but ((Only.refl (w.heap.size + 1 + 1) w2).setCell 0 (.slice (some ⟨g, 0, none⟩) n n)) (by omega)).next B3); (have hgh : g < h := by have := O2.hi; simp at hh3; omega); (have hh4 : w.heap.size + 3 ≤ h := by have := R2.hi; have := Z2.hi; have := O2.hi; simp at hh3; omega); clear z0 z1 zf p0 p1 P2 R2 Z2 O2 D2 B3 hh3; (have z0 := Z3.c0); (have z1 := Z3.c1); (have zf := Z3.f); (have r0 := R3.c0); (have r1 := R3.c1); (have rf := R3.f)))
  have RF := ((R3.far (w.heap.size + 1 + 1) 1 (.slice (some ⟨h, 0, none⟩) m m) (by omega)).s0 (.slice (some ⟨g, 0, none⟩) n n)).s1 (.slice (some ⟨h, 0, none⟩) m m)
  have ON2 : Only (w.heap.size + 1 + 1) w3 (w3.setCell ⟨w.heap.size + 1 + 1, 1, none⟩ (.slice (some ⟨h, 0, none⟩) m m)) := (Only.refl _ _).setCell _ _
  have OG := ((O2n.but ON2 (by omega)).but ((Only.refl (w.heap.size + 1) _).setCell 0 (.slice (some ⟨g, 0, none⟩) n n)) (by omega)).but ((Only.refl (w.heap.size + 1) _).setCell 1 (.slice (some ⟨h, 0, none⟩) m m)) (by omega)
  have OH := ((O3.but ON2 (by omega)).but ((Only.refl (w.heap.size + 1) _).setCell 0 (.slice (some ⟨g, 0, none⟩) n n)) (by omega)).but ((Only.refl (w.heap.size + 1) _).setCell 1 (.slice (some ⟨h, 0, none⟩) m m)) (by omega)
  have DF := ((D3.setCell (p := ⟨w.heap.size + 1 + 1, 1, none⟩) (by simp; omega) (.slice (some ⟨h, 0, none⟩) m m)).setCell (p := ⟨w.heap.size + 1, 0, none⟩) (by simp) (.slice (some ⟨g, 0, none⟩) n n)).setCell (p := ⟨w.heap.size + 1, 1, none⟩) (by simp) (.slice (some ⟨h, 0, none⟩) m m)
  have q0 := RF.c0
  have q1 := RF.c1
  clear z0 z1 zf r0 r1 rf Z3 R3 O2n O3 D3 ON2
  exact bodyPost_ret (v := .agg #[.slice (some ⟨g, 0, none⟩) n n, .slice (some ⟨h, 0, none⟩) m m]) (by simp [results, Try.results13, go_sem, q0, q1]) rfl ⟨g, h, rfl, by omega, hgh, OG, OH, DF⟩
/-- n blocks of block o, the first k of them filled; each with two rows of its own, above all that is ahead of it. -/
structure BkO (w : World) (B o n : Nat) (L : List TB) (k : Nat) (G H : Nat → Nat) : Prop where
  cell : ∀ i, i < k → w.cell? ⟨o, i * 2, none⟩ = some (.slice (some ⟨G i, 0, none⟩) (tb L i).1.length (tb L i).1.length) ∧ w.cell? ⟨o, i * 2 + 1, none⟩ = some (.slice (some ⟨H i, 0, none⟩) (tb L i).2.length (tb L i).2.length)
  zero : ∀ i, k ≤ i → i < n → w.cell? ⟨o, i * 2, none⟩ = some (.slice none 0 0) ∧ w.cell? ⟨o, i * 2 + 1, none⟩ = some (.slice none 0 0)
  free : ∀ i, w.frozen? ⟨o, i, none⟩ = false
  hi : o < w.heap.size
  own : ∀ i, i < k → Own w (G i) (tb L i).1.length (fun j => .int .i64 ((tb L i).1.getD j 0)) ∧ Own w (H i) (tb L i).2.length (fun j => .int .i64 ((tb L i).2.getD j 0))
  ord : ∀ i, i < k → o < G i ∧ G i < H i
  mon : ∀ i j, j < i → i < k → H j < G i
  lo : B ≤ o
theorem BkO.next {w w' : World} {B o n k : Nat} {L : List TB} {G H : Nat → Nat} (X : BkO w B o n L k G H) (b : Below w.heap.size w w') : BkO w' B o n L k G H := by
  have z := b.size
  have zh := X.hi
  refine ⟨fun i hi => ?_, fun i h1 h2 => ?_, fun i => (b.frozen (p := ⟨o, i, none⟩) X.hi).trans (X.free i), by omega, fun i hi => ?_, X.ord, X.mon, X.lo⟩
  · exact ⟨(b.cell (p := ⟨o, i * 2, none⟩) X.hi).trans (X.cell i hi).1, (b.cell (p := ⟨o, i * 2 + 1, none⟩) X.hi).trans (X.cell i hi).2⟩
  · exact ⟨(b.cell (p := ⟨o, i * 2, none⟩) X.hi).trans (X.zero i h1 h2).1, (b.cell (p := ⟨o, i * 2 + 1, none⟩) X.hi).trans (X.zero i h1 h2).2⟩
  · exact ⟨(X.own i hi).1.next b, (X.own i hi).2.next b⟩
theorem BkO.step {w : World} {B o n k g h : Nat} {L : List TB} {G H : Nat → Nat} (X : BkO w B o n L k G H) (hk : k < n) (hog : o < g) (hgh : g < h) (hm : ∀ j, j < k → H j < g)
    (Og : Own w g (tb L k).1.length (fun j => .int .i64 ((tb L k).1.getD j 0))) (Oh : Own w h (tb L k).2.length (fun j => .int .i64 ((tb L k).2.getD j 0))) :
    BkO ((w.setCell ⟨o, k * 2, none⟩ (.slice (some ⟨g, 0, none⟩) (tb L k).1.length (tb L k).1.length)).setCell ⟨o, k * 2 + 1, none⟩ (.slice (some ⟨h, 0, none⟩) (tb L k).2.length (tb L k).2.length)) B o n L (k + 1) (fun i => if i = k then g else G i) (fun i => if i = k then h else H i) := by
  have ON := fun (x y : Value) => ((Only.refl o w).setCell (k * 2) x).setCell (k * 2 + 1) y
  refine ⟨fun i hi => ?_, fun i h1 h2 => ?_, fun i => by simp [X.free i], by simpa using X.hi, fun i hi => ?_, fun i hi => ?_, fun i j hj hi => ?_, X.lo⟩
  · by_cases e : i = k
    · subst e
      obtain ⟨z0, z1⟩ := X.zero i (Nat.le_refl _) hk
      simp only [if_true]
      exact ⟨by rw [World.cell?_setCell_other (h := addr_ne (by omega))]; exact World.cell?_setCell_same' _ _ _ (by rw [z0]; rfl), World.cell?_setCell_same' _ _ _ (by rw [World.cell?_setCell_other (h := addr_ne (by omega)), z1]; rfl)⟩
    · obtain ⟨q0, q1⟩ := X.cell i (by omega)
      simp only [if_neg e]
      exact ⟨by rw [World.cell?_setCell_other (h := addr_ne (by omega)), World.cell?_setCell_other (h := addr_ne (by omega))]; exact q0, by rw [World.cell?_setCell_other (h := addr_ne (by omega)), World.cell?_setCell_other (h := addr_ne (by omega))]; exact q1⟩
  · obtain ⟨q0, q1⟩ := X.zero i (by omega) h2
    exact ⟨by rw [World.cell?_setCell_other (h := addr_ne (by omega)), World.cell?_setCell_other (h := addr_ne (by omega))]; exact q0, by rw [World.cell?_setCell_other (h := addr_ne (by omega)), World.cell?_setCell_other (h := addr_ne (by omega))]; exact q1⟩
  · by_cases e : i = k
    · subst e
      simp only [if_true]
      exact ⟨Og.but (ON _ _) (by omega), Oh.but (ON _ _) (by omega)⟩
    · simp only [if_neg e]
      have q := X.own i (by omega)
      have r := X.ord i (by omega)
      exact ⟨q.1.but (ON _ _) (by omega), q.2.but (ON _ _) (by omega)⟩
  · by_cases e : i = k
    · simp only [if_pos e]; exact ⟨hog, hgh⟩
    · simp only [if_neg e]; exact X.ord i (by omega)
  · by_cases e : i = k
    · subst e
      simp only [if_true, if_neg (show ¬ j = i by omega)]
      exact hm j hj
    · simp only [if_neg e, if_neg (show ¬ j = k by omega)]
      exact X.mon i j hj (by omega)
/-- A row of blocks as the laws copy it, from block B on. -/
def Bks (B : Nat) (w : World) (v : Value) (L : List TB) : Prop := ∃ o G H, v = .slice (some ⟨o, 0, none⟩) L.length L.length ∧ BkO w B o L.length L L.length G H
theorem Bks.next {B : Nat} {w w' : World} {v : Value} {L : List TB} (h : Bks B w v L) (b : Below w.heap.size w w') : Bks B w' v L := by
  obtain ⟨o, G, H, e, X⟩ := h
  exact ⟨o, G, H, e, X.next b⟩
theorem Bks.brow {B : Nat} {w : World} {v : Value} {L : List TB} (h : Bks B w v L) : BRow w v L := by
  obtain ⟨o, G, H, e, X⟩ := h
  refine ⟨_, _, e, fun i hi => ?_⟩
  obtain ⟨c0, c1⟩ := X.cell i hi
  obtain ⟨o1, o2⟩ := X.own i hi
  exact ⟨o, 0, _, _, rfl, by rw [Nat.zero_add]; exact c0, by rw [Nat.zero_add]; exact c1, own_ar o1 rfl, own_ar o2 rfl⟩
theorem infoBl : (Try.prog.info? 27).map (fun i => (i.zero, i.size, i.bytes)) = some (some (.agg #[.slice none 0 0, .slice none 0 0]), 2, 48) := by kernel_rfl
theorem madeBl {w : World} {B n t : Nat} {w' : World} (h : w'.ownsRow B t 2 (.slice (some ⟨w.heap.size, 0, none⟩) n n) n (madeCells #[.slice none 0 0, .slice none 0 0] (n * 2)).toList) (L : List TB) : BkO w' w.heap.size w.heap.size n L 0 (fun _ => 0) (fun _ => 0) := by
  refine ⟨fun i hi => absurd hi (Nat.not_lt_zero _), fun i h1 h2 => ⟨?_, ?_⟩, fun i => h.frozenAt i, (h.lt _ rfl).2, fun i hi => absurd hi (Nat.not_lt_zero _), fun i hi => absurd hi (Nat.not_lt_zero _), fun i j hj hi => absurd hi (Nat.not_lt_zero _), Nat.le_refl _⟩
  · rw [h.cellAt (i * 2) (by omega)]
    have e : (i * 2) % 2 = 0 := by omega
    simp [madeCells, show i * 2 < n * 2 by omega, e]
  · rw [h.cellAt (i * 2 + 1) (by omega)]
    have e : (i * 2 + 1) % 2 = 1 := by omega
    simp [madeCells, show i * 2 + 1 < n * 2 by omega, e]
set_option maxRecDepth 100000 in
set_option maxHeartbeats 4000000 in
theorem toBS (v : Value) (L : List TB) (w : World) (U : BRow w v L) (hl : L.length ≤ 1048576) (hx : ∀ i, i < L.length → (tb L i).1.length ≤ 1048576 ∧ (tb L i).2.length ≤ 1048576) :
    Calls Try.prog 25 #[v] w fun r w' => (∃ a, r = .returned a ∧ Bks w.heap.size w' a L) ∧ Below w.heap.size w w' := by
  obtain ⟨ad, c, rfl, hrow⟩ := U
  have HE : Hid (∀ i, i < L.length → ∃ g o u x, ad = some ⟨g, o, none⟩ ∧ w.cell? ⟨g, o + i * 2, none⟩ = some u ∧ w.cell? ⟨g, o + i * 2 + 1, none⟩ = some x ∧ ∀ (w' : World), Below w.heap.size w w' → Calls Try.prog 13 #[.agg #[u, x]] w' fun r w'' => ∃ g h, r = .returned (.agg #[.slice (some ⟨g, 0, none⟩) (tb L i).1.length (tb L i).1.length, .slice (some ⟨h, 0, none⟩) (tb L i).2.length (tb L i).2.length]) ∧ w'.heap.size ≤ g ∧ g < h ∧ Own w'' g (tb L i).1.length (fun j => .int .i64 ((tb L i).1.getD j 0)) ∧ Own w'' h (tb L i).2.length (fun j => .int .i64 ((tb L i).2.getD j 0)) ∧ Below w'.heap.size w' w'') := fun i hi => by
    obtain ⟨g, o, u, x, e1, e2, e3, e4, e5⟩ := hrow i hi
    exact ⟨g, o, u, x, e1, e2, e3, fun w' b => toBk u x _ _ w' (e4.next b) (e5.next b) (hx i hi).1 (hx i hi).2⟩
  have HG : Hid (∀ (w' : World) o G H, BkO w' w.heap.size o L.length L L.length G H → Bks w.heap.size w' (.slice (some ⟨o, 0, none⟩) L.length L.length) L) := fun w' o G H h => ⟨o, G, H, rfl, h⟩
  obtain ⟨n, hn⟩ : ∃ n, L.length = n := ⟨_, rfl⟩
  rw [hn] at HE HG hl ⊢
  clear hn hrow hx
  obtain ⟨i0, hi, hz0, hz1, hz2⟩ := info_parts infoBl
  go_enter Try.func25, Try.ntmps25
  go_wp2_with (at_make; refine wpList_make_full _ rfl _ _ 48 rfl w.heap.size 27 i0 (.agg #[.slice none 0 0, .slice none 0 0]) 2 Try.underlying48 hi hz0 hz1 _ _ _ _ n rfl rfl (by first | rfl | omega) (by first | rfl | omega) (by rw [hz2]; omega) (by unfold maxLen; omega) (Nat.le_refl _) ?_; intro w1 hown hgrow)
  have O1 := madeBl hown L
  have B1 : Below w.heap.size w w1 := (Below.refl _ _).grown hgrow (Nat.le_refl _) (by simp)
  clear hown hgrow hi hz0 hz1 hz2
  go_loopw [4] (fun i wr => ∃ (k : Nat) (G H : Nat → Nat), k ≤ n ∧ i = .int .i64 k ∧ Hid (BkO wr w.heap.size w.heap.size n L k G H) ∧ Below w.heap.size w wr) (fun i _ => n - (intOf i).toNat)
  case atStart => exact ⟨0, _, _, by omega, rfl, O1, B1⟩
  case round =>
    obtain ⟨k, G, H, hk, rfl, OK, BK⟩ := hrel
    by_cases hkn : k < n
    · have i1 : (k : Int) < (n : Int) := by omega
      have i0 : (0 : Int) ≤ (k : Int) := by omega
      obtain ⟨g, o, u, x, rfl, hc0, hc1, hC⟩ := HE.out k hkn
      have c0 := cell_nx hc0 BK
      have c1 := cell_nx hc1 BK
      have hcall := hC wr BK
      have HM : Hid (∀ j, j < k → H j < wr.heap.size) := fun j hj => (OK.out.own j hj).2.hi
      clear hc0 hc1 hC HE HG O1 B1
      generalize hP : (tb L k).1.length = P at hcall
      generalize hQ : (tb L k).2.length = Q at hcall
      have HPQ : Hid ((tb L k).1.length = P ∧ (tb L k).2.length = Q) := ⟨hP, hQ⟩
      have HS : Hid (∀ (v : World) g h, BkO v w.heap.size w.heap.size n L k G H → g < h → w.heap.size < g → (∀ j, j < k → H j < g) → Own v g P (fun j => .int .i64 ((tb L k).1.getD j 0)) → Own v h Q (fun j => .int .i64 ((tb L k).2.getD j 0)) → BkO ((v.setCell ⟨w.heap.size, k * 2, none⟩ (.slice (some ⟨g, 0, none⟩) P P)).setCell ⟨w.heap.size, k * 2 + 1, none⟩ (.slice (some ⟨h, 0, none⟩) Q Q)) w.heap.size w.heap.size n L (k + 1) (fun i => if i = k then g else G i) (fun i => if i = k then h else H i)) := fun v g h X h1 h2 h3 h4 h5 => by
        rw [← hP, ← hQ]
        exact X.step hkn h2 h1 h3 (by rw [hP]; exact h4) (by rw [hQ]; exact h5)
      clear hP hQ HPQ
      generalize (fun j => Value.int IntKind.i64 ((tb L k).1.getD j 0)) = FP at hcall HS
      generalize (fun j => Value.int IntKind.i64 ((tb L k).2.getD j 0)) = FQ at hcall HS
      go_wp2_with (go_at_call 13; refine hcall.mono ?_; rintro e w2 ⟨g2, h2, rfl, hg2, hgh, Og, Oh, B2⟩; (have O2 := Hid.mk (OK.out.next B2)); (have f0 := O2.out.free (k * 2)); (have f1 := O2.out.free (k * 2 + 1)); (have z0 := (O2.out.zero k (Nat.le_refl _) hkn).1); (have z1 := (O2.out.zero k (Nat.le_refl _) hkn).2))
      go_roundw
      case rel =>
        have Bs := BK.trans (B2.mono BK.size)
        exact ⟨k + 1, _, _, by omega, by go_num, HS.out _ _ _ O2.out hgh (by have := OK.out.hi; omega) (fun j hj => by have := HM.out j hj; omega) Og Oh, (Bs.setCell (Nat.le_refl _) _).setCell (Nat.le_refl _) _⟩
      case measure => simp [intOf]; omega
    · obtain rfl : n = k := by omega
      have i1 : ¬ (n : Int) < (n : Int) := by omega
      go_wp2
      go_ret
      exact ⟨⟨_, rfl, HG.out _ _ _ _ OK.out⟩, BK⟩
set_option maxRecDepth 100000 in
set_option maxHeartbeats 4000000 in
theorem eqBS {A B : Nat} (a b : Value) (L : List TB) (w : World) (U : Bks A w a L) (V : Bks B w b L) (hl : L.length ≤ 1048576) (hx : ∀ i, i < L.length → (tb L i).1.length ≤ 1048576 ∧ (tb L i).2.length ≤ 1048576) :
    Calls Try.prog 28 #[a, b] w fun r w' => r = .returned (.bool true) ∧ Below w.heap.size w w' := by
  obtain ⟨o, G, H, rfl, X⟩ := U
  obtain ⟨p, E, F, rfl, Y⟩ := V
  have HE : Hid (∀ i, i < L.length → ∃ u x y z, w.cell? ⟨o, i * 2, none⟩ = some u ∧ w.cell? ⟨o, i * 2 + 1, none⟩ = some x ∧ w.cell? ⟨p, i * 2, none⟩ = some y ∧ w.cell? ⟨p, i * 2 + 1, none⟩ = some z ∧ ∀ (w' : World), Below w.heap.size w w' → Calls Try.prog 15 #[.agg #[u, x], .agg #[y, z]] w' fun r w'' => r = .returned (.bool true) ∧ Below w'.heap.size w' w'') := fun i hi => by
    obtain ⟨o1, o2⟩ := X.own i hi
    obtain ⟨p1, p2⟩ := Y.own i hi
    exact ⟨_, _, _, _, (X.cell i hi).1, (X.cell i hi).2, (Y.cell i hi).1, (Y.cell i hi).2, fun w' b => eqB _ _ _ _ w' ⟨_, _, rfl, o1.next b, o2.next b⟩ ⟨_, _, rfl, p1.next b, p2.next b⟩ (hx i hi).1 (hx i hi).2⟩
  clear X Y hx
  obtain ⟨n, hn⟩ : ∃ n, L.length = n := ⟨_, rfl⟩
  rw [hn] at HE hl ⊢
  clear hn
  go_enter Try.func28, Try.ntmps28
  go_wp2
  go_loopw [5] (fun i wx => ∃ k : Nat, k ≤ n ∧ i = .int .i64 k ∧ Below w.heap.size w wx) (fun i _ => n - (intOf i).toNat)
  case atStart => exact ⟨0, by omega, rfl, Below.refl _ _⟩
  case round =>
    obtain ⟨k, hk, rfl, HB⟩ := hrel
    by_cases hkn : k < n
    · obtain ⟨u, x, y, z, d0, d1, d2, d3, hC⟩ := HE.out k hkn
      have e0 := cell_nx d0 HB
      have e1 := cell_nx d1 HB
      have e2 := cell_nx d2 HB
      have e3 := cell_nx d3 HB
      have HC : Hid (∀ q : Nat, Calls Try.prog 15 #[.agg #[u, x], .agg #[y, z]] (wr.drewN q) fun r w'' => r = .returned (.bool true) ∧ Below (wr.drewN q).heap.size (wr.drewN q) w'') := fun q => hC _ (below_drewN HB q)
      have i0 : (0 : Int) ≤ (k : Int) := by omega
      have i1 : (k : Int) < (n : Int) := by omega
      clear d0 d1 d2 d3 hC HE
      go_wp2
      go_region_with (go_at_call 15; refine (HC.out _).mono ?_; rintro e w2 ⟨rfl, B2⟩; (have B3 : Below wr.heap.size wr w2 := ⟨B2.os, B2.tape, B2.output, B2.size, B2.block⟩))
      all_goals
        go_wp2
        go_roundw
        case rel => exact ⟨k + 1, by omega, by go_num, HB.trans (B3.mono HB.size)⟩
        case measure => simp [intOf]; omega
    · have hkk : k = n := by omega
      subst hkk
      go_wp2
      go_ret
      exact ⟨rfl, HB⟩
end Go.Proofs.Ytngmaeinehfimaa
