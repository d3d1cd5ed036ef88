/- What the laws mark: rows of numbers, rows of blocks, a ray; what stays. -/
import Derived.Test.YtngmaeinehfimaaMl
namespace Go.Proofs.Ytngmaeinehfimaa
open Go.ChangeShapes Go.WideShapes Go.ChangeAt Go.RowKit
set_option linter.unusedVariables false
/-- Of the blocks that were there those from lo on and below hi alone may have changed. -/
structure Btw (lo hi : Nat) (w w' : World) : Prop where
  os : w'.os = w.os
  tape : w'.tape = w.tape
  output : w'.output = w.output
  size : w.heap.size ≤ w'.heap.size
  block : ∀ k, k < w.heap.size → (k < lo ∨ hi ≤ k) → w'.heap[k]? = w.heap[k]?
theorem Btw.refl (lo hi : Nat) (w : World) : Btw lo hi w w := ⟨rfl, rfl, rfl, Nat.le_refl _, fun _ _ _ => rfl⟩
theorem Btw.trans {lo hi : Nat} {a b c : World} (h : Btw lo hi a b) (k : Btw lo hi b c) : Btw lo hi a c := ⟨k.os.trans h.os, k.tape.trans h.tape, k.output.trans h.output, Nat.le_trans h.size k.size, fun i hi ho => (k.block i (Nat.lt_of_lt_of_le hi h.size) ho).trans (h.block i hi ho)⟩
theorem Btw.only {lo hi g : Nat} {a b : World} (k : Only g a b) (h1 : lo ≤ g) (h2 : g < hi) : Btw lo hi a b := ⟨k.os, k.tape, k.output, k.size, fun i hi ho => k.block i hi (by omega)⟩
theorem Btw.ofBelow {lo hi : Nat} {a b : World} (k : Below a.heap.size a b) : Btw lo hi a b := ⟨k.os, k.tape, k.output, k.size, fun i hi _ => k.block i hi⟩
theorem Btw.below {lo hi : Nat} {a b : World} (k : Btw lo hi a b) (h : lo ≤ a.heap.size) : Below lo a b := ⟨k.os, k.tape, k.output, k.size, fun i hi => k.block i (by omega) (Or.inl hi)⟩
theorem Own.btw {lo hi : Nat} {w w' : World} {o n : Nat} {f : Nat → Value} (h : Own w o n f) (k : Btw lo hi w w') (ho : o < lo ∨ hi ≤ o) : Own w' o n f := by
  have z := k.size
  have zh := h.hi
  exact ⟨fun i hi => (World.cell?_of_block (w := w) (a := ⟨o, i, none⟩) (k.block o zh ho)).trans (h.cell i hi), fun i => (World.frozen?_of_block (w := w) (a := ⟨o, i, none⟩) (k.block o zh ho)).trans (h.free i), by omega⟩
theorem C2.btw {lo hi : Nat} {w w' : World} {b : Nat} {v0 v1 : Value} (h : C2 w b v0 v1) (k : Btw lo hi w w') (hb : b < lo ∨ hi ≤ b) : C2 w' b v0 v1 := h.block (k.block b h.hi hb) k.size
theorem RowHV.btw {lo hi : Nat} {w w' : World} {v : Value} {n : Nat} {F0 F1 F2 : Nat → Int} (h : RowHV w v n F0 F1 F2) (k : Btw lo hi w w') (hv : ∀ g, v.ownBlock = some g → g < lo ∨ hi ≤ g) : RowHV w' v n F0 F1 F2 := by
  rcases h with h | ⟨o, c, rfl, R⟩
  · exact Or.inl h
  · have hb := k.block o R.hi (hv o rfl)
    exact Or.inr ⟨o, c, rfl, ⟨fun i hi => (World.cell?_of_block (w := w) (a := ⟨o, i * 3, none⟩) hb).trans (R.c0 i hi), fun i hi => (World.cell?_of_block (w := w) (a := ⟨o, i * 3 + 1, none⟩) hb).trans (R.c1 i hi), fun i hi => (World.cell?_of_block (w := w) (a := ⟨o, i * 3 + 2, none⟩) hb).trans (R.c2 i hi), fun i => (World.frozen?_of_block (w := w) (a := ⟨o, i, none⟩) hb).trans (R.free i), Nat.lt_of_lt_of_le R.hi k.size⟩⟩
set_option maxRecDepth 100000 in
set_option maxHeartbeats 2000000 in
theorem markI (g n c : Nat) (f : Nat → Value) (k : Int) (w : World) (O : Own w g n f) (hn : n ≤ 1048576) (k0 : 0 ≤ k) (k1 : k ≤ 1000000000000000) : Calls Try.prog 65 #[.slice (some ⟨g, 0, none⟩) n c, .int .i64 k] w fun r w' => r = .returned (.int .i64 (k + n)) ∧ Only g w w' := by
  go_enter Try.func65, Try.ntmps65
  go_wp2
  go_loopw [1, 5] (fun l i wr => ∃ (j : Nat) (M : Int) (f' : Nat → Value), j ≤ n ∧ i = .int .i64 j ∧ l = .int .i64 M ∧ Hid (M = k + j) ∧ 0 ≤ M ∧ M ≤ 1000000001048576 ∧ Own wr g n f' ∧ Only g w wr) (fun _ i _ => n - (intOf i).toNat)
  case atStart => exact ⟨0, k, f, Nat.zero_le _, rfl, rfl, by show k = k + ((0 : Nat) : Int); omega, k0, by omega, O, Only.refl _ _⟩
  case round =>
    obtain ⟨j, M, f', hj, rfl, rfl, HM, M0, M1, OJ, ON⟩ := hrel
    by_cases hjn : j < n
    · have i1 : (j : Int) < (n : Int) := by omega
      have i0 : (0 : Int) ≤ (j : Int) := by omega
      have c0 := OJ.cell j hjn
      have c1 := OJ.free j
      have O2 := OJ.set (g := fun i => if i = j then .int .i64 M else f' i) j (.int .i64 M) hjn (fun i hi => rfl)
      have N2 := ON.setCell j (.int .i64 M)
      have HM2 : Hid (M + 1 = k + ((j + 1 : Nat) : Int)) := by have h : M = k + j := HM; show M + 1 = k + ((j + 1 : Nat) : Int); omega
      have hM1 : M + 1 ≤ 1000000001048576 := by have h : M = k + j := HM; omega
      clear OJ ON HM
      go_wp2
      go_roundw
      case rel => exact ⟨j + 1, M + 1, _, by omega, by go_num, rfl, HM2, by omega, hM1, O2, N2⟩
      case measure => simp [intOf]; omega
    · obtain rfl : n = j := by omega
      have i1 : ¬ (n : Int) < (n : Int) := by omega
      obtain rfl : M = k + n := HM
      go_wp2
      go_ret
      exact ⟨rfl, ON⟩
/-- A row of blocks as the laws copy it, from block lo on and below hi. -/
def BkC (lo hi : Nat) (w : World) (v : Value) (L : List TB) : Prop := ∃ o G H, v = .slice (some ⟨o, 0, none⟩) L.length L.length ∧ BkO w lo o L.length L L.length G H ∧ o < hi ∧ ∀ i, i < L.length → H i < hi
theorem BkC.next {lo hi : Nat} {w w' : World} {v : Value} {L : List TB} (h : BkC lo hi w v L) (b : Below w.heap.size w w') : BkC lo hi w' v L := by
  obtain ⟨o, G, H, e, X, h1, h2⟩ := h
  exact ⟨o, G, H, e, X.next b, h1, h2⟩
theorem BkC.bks {lo hi : Nat} {w : World} {v : Value} {L : List TB} (h : BkC lo hi w v L) : Bks lo w v L := by
  obtain ⟨o, G, H, e, X, h1, h2⟩ := h
  exact ⟨o, G, H, e, X⟩
theorem Bks.bound {lo : Nat} {w : World} {v : Value} {L : List TB} (h : Bks lo w v L) : BkC lo w.heap.size w v L := by
  obtain ⟨o, G, H, e, X⟩ := h
  exact ⟨o, G, H, e, X, X.hi, fun i hi => (X.own i hi).2.hi⟩
theorem BkC.high {lo hi hj : Nat} {w : World} {v : Value} {L : List TB} (h : BkC lo hi w v L) (k : hi ≤ hj) : BkC lo hj w v L := by
  obtain ⟨o, G, H, e, X, h1, h2⟩ := h
  exact ⟨o, G, H, e, X, Nat.lt_of_lt_of_le h1 k, fun i hi => Nat.lt_of_lt_of_le (h2 i hi) k⟩
set_option maxRecDepth 100000 in
set_option maxHeartbeats 4000000 in
theorem markBS {lo hi : Nat} (v : Value) (L : List TB) (w : World) (X : BkC lo hi w v L) (hs : ShB L) : Calls Try.prog 32 #[v, .int .i64 1] w fun r w' => (∃ y : Int, r = .returned (.int .i64 y) ∧ 0 ≤ y ∧ y ≤ 500000000000000) ∧ Btw lo hi w w' := by
  obtain ⟨o, G, H, rfl, X, hoh, hhh⟩ := X
  have HC : Hid (∀ i, i < L.length → w.cell? ⟨o, i * 2, none⟩ = some (.slice (some ⟨G i, 0, none⟩) (tb L i).1.length (tb L i).1.length) ∧ w.cell? ⟨o, i * 2 + 1, none⟩ = some (.slice (some ⟨H i, 0, none⟩) (tb L i).2.length (tb L i).2.length)) := X.cell
  have HO : Hid (∀ i, i < L.length → Own w (G i) (tb L i).1.length (fun j => .int .i64 ((tb L i).1.getD j 0)) ∧ Own w (H i) (tb L i).2.length (fun j => .int .i64 ((tb L i).2.getD j 0))) := X.own
  have HG : Hid (∀ i, i < L.length → o < G i ∧ G i < H i ∧ H i < hi ∧ lo ≤ G i) := fun i h => ⟨(X.ord i h).1, (X.ord i h).2, hhh i h, Nat.le_of_lt (Nat.lt_of_le_of_lt X.lo (X.ord i h).1)⟩
  have HMo : Hid (∀ i j, j < i → i < L.length → H j < G i) := X.mon
  have HL : Hid (∀ i, i < L.length → (tb L i).1.length ≤ 1048576 ∧ (tb L i).2.length ≤ 1048576) := hs.2
  have hn := hs.1
  have hob := X.hi
  clear X hhh hs
  obtain ⟨n, hn'⟩ : ∃ n, L.length = n := ⟨_, rfl⟩
  rw [hn'] at HC HO HG HMo HL hn ⊢
  clear hn'
  go_enter Try.func32, Try.ntmps32
  go_wp2
  go_loopw [1, 5] (fun l i wr => ∃ (j : Nat) (y : Int), j ≤ n ∧ i = .int .i64 j ∧ l = .int .i64 y ∧ 0 ≤ y ∧ Hid (y ≤ 1 + 4194304 * (j : Int)) ∧ Hid (∀ i, i < n → wr.cell? ⟨o, i * 2, none⟩ = some (.slice (some ⟨G i, 0, none⟩) (tb L i).1.length (tb L i).1.length) ∧ wr.cell? ⟨o, i * 2 + 1, none⟩ = some (.slice (some ⟨H i, 0, none⟩) (tb L i).2.length (tb L i).2.length)) ∧ o < wr.heap.size ∧ Hid (∀ i, j ≤ i → i < n → Own wr (G i) (tb L i).1.length (fun j => .int .i64 ((tb L i).1.getD j 0)) ∧ Own wr (H i) (tb L i).2.length (fun j => .int .i64 ((tb L i).2.getD j 0))) ∧ Btw lo hi w wr) (fun _ i _ => n - (intOf i).toNat)
  case atStart => exact ⟨0, 1, Nat.zero_le _, rfl, rfl, by omega, by show (1 : Int) ≤ _; omega, HC, hob, fun i _ hi => HO.out i hi, Btw.refl _ _ _⟩
  case round =>
    obtain ⟨j, y, hj, rfl, rfl, hy0, HY, HCj, hoj, HOj, HB⟩ := hrel
    by_cases hjn : j < n
    · have i1 : (j : Int) < (n : Int) := by omega
      have i0 : (0 : Int) ≤ (j : Int) := by omega
      obtain ⟨c0, c1⟩ := HCj.out j hjn
      obtain ⟨o1, o2⟩ := HOj.out j (Nat.le_refl _) hjn
      obtain ⟨g1, g2, g3, g4⟩ := HG.out j hjn
      obtain ⟨l1, l2⟩ := HL.out j hjn
      have hy1 : y ≤ 5000000000000 := by have h : y ≤ 1 + 4194304 * (j : Int) := HY; omega
      have K1 := Hid.mk (markI (G j) (tb L j).1.length (tb L j).1.length _ y wr o1 l1 hy0 (by omega))
      have K2 : Hid (∀ w2 z, Only (G j) wr w2 → 0 ≤ z → z ≤ 1000000000000000 → Calls Try.prog 65 #[.slice (some ⟨H j, 0, none⟩) (tb L j).2.length (tb L j).2.length, .int .i64 z] w2 fun r w' => r = .returned (.int .i64 (z + (tb L j).2.length)) ∧ Only (H j) w2 w') := fun w2 z ON z0 z1 => markI (H j) (tb L j).2.length (tb L j).2.length _ z w2 (o2.but ON (by omega)) l2 z0 z1
      have HGG := Hid.mk HG.out
      have HEND : Hid (∀ w2 w3, Only (G j) wr w2 → Only (H j) w2 w3 → (∀ i, i < n → w3.cell? ⟨o, i * 2, none⟩ = some (.slice (some ⟨G i, 0, none⟩) (tb L i).1.length (tb L i).1.length) ∧ w3.cell? ⟨o, i * 2 + 1, none⟩ = some (.slice (some ⟨H i, 0, none⟩) (tb L i).2.length (tb L i).2.length)) ∧ o < w3.heap.size ∧ (∀ i, j + 1 ≤ i → i < n → Own w3 (G i) (tb L i).1.length (fun j => .int .i64 ((tb L i).1.getD j 0)) ∧ Own w3 (H i) (tb L i).2.length (fun j => .int .i64 ((tb L i).2.getD j 0))) ∧ Btw lo hi w w3) := fun w2 w3 A B => by
        have hb2 := A.block o hoj (by omega)
        have hb3 := B.block o (Nat.lt_of_lt_of_le hoj A.size) (by omega)
        have hb := hb3.trans hb2
        refine ⟨fun i hi => ⟨(World.cell?_of_block (w := wr) (a := ⟨o, i * 2, none⟩) hb).trans (HCj.out i hi).1, (World.cell?_of_block (w := wr) (a := ⟨o, i * 2 + 1, none⟩) hb).trans (HCj.out i hi).2⟩, Nat.lt_of_lt_of_le hoj (Nat.le_trans A.size B.size), fun i hi1 hi2 => ?_, (HB.trans (Btw.only A g4 (by omega))).trans (Btw.only B (by omega) g3)⟩
        have q := HOj.out i (by omega) hi2
        have r := HMo.out i j (by omega) hi2
        have r2 := HG.out i hi2
        exact ⟨(q.1.but A (by omega)).but B (by omega), (q.2.but A (by omega)).but B (by omega)⟩
      have HYY : Hid (y + ((tb L j).1.length : Int) + ((tb L j).2.length : Int) ≤ 1 + 4194304 * ((j + 1 : Nat) : Int)) := by have h : y ≤ 1 + 4194304 * (j : Int) := HY; show _ ≤ _; omega
      clear HG HGG HCj HOj HB HL HC HO HMo o1 o2 HY
      generalize (tb L j).1.length = p1 at *
      generalize (tb L j).2.length = p2 at *
      go_wp2_with (first
        | (go_at_call 65; (with_reducible show Calls Try.prog 65 _ wr _); refine K1.out.mono ?_; rintro e w2 ⟨rfl, A2⟩; (have hb2 := A2.block o hoj (by omega)); (have d1 := (World.cell?_of_block (w := wr) (a := ⟨o, j * 2 + 1, none⟩) hb2).trans c1); clear c0 c1 K1)
        | (go_at_call 65; refine (K2.out w2 (y + p1) A2 (by omega) (by omega)).mono ?_; rintro e w3 ⟨rfl, A3⟩; (obtain ⟨f1, f2, f3, f4⟩ := HEND.out w2 w3 A2 A3); (have F1 := Hid.mk f1); (have F3 := Hid.mk f3); clear f1 f3 d1 K2 HEND A2 A3 hb2))
      go_roundw
      case rel => exact ⟨j + 1, y + p1 + p2, by omega, by go_num, rfl, by omega, HYY, F1, f2, F3, f4⟩
      case measure => simp [intOf]; omega
    · obtain rfl : n = j := by omega
      have i1 : ¬ (n : Int) < (n : Int) := by omega
      have hy1 : y ≤ 500000000000000 := by have h : y ≤ 1 + 4194304 * (n : Int) := HY; omega
      clear HY
      go_wp2
      go_ret
      exact ⟨⟨y, rfl, hy0, hy1⟩, HB⟩
set_option maxRecDepth 100000 in
set_option maxHeartbeats 4000000 in
theorem toRk (u v : Value) (L H : List Int) (w : World) (U : ARow w u L) (V : ARow w v H) (hl : L.length ≤ 1048576) (hh : H.length ≤ 1048576) : Calls Try.prog 18 #[.agg #[u, v]] w fun r w' => ∃ g h, r = .returned (.agg #[.slice (some ⟨g, 0, none⟩) L.length L.length, .slice (some ⟨h, 0, none⟩) H.length H.length]) ∧ w.heap.size ≤ g ∧ g < h ∧ Own w' g L.length (fun i => .int .i64 (L.getD i 0)) ∧ Own w' h H.length (fun i => .int .i64 (H.getD i 0)) ∧ Below w.heap.size w w' := by
  have HU : Hid (∀ w', Below w.heap.size w w' → Calls Try.prog 49 #[u] w' fun r w'' => (∃ g, r = .returned (.slice (some ⟨g, 0, none⟩) L.length L.length) ∧ Own w'' g L.length (fun i => .int .i64 (L.getD i 0)) ∧ w'.heap.size ≤ g) ∧ Below w'.heap.size w' w'') := fun w' b => by
    have h := U.next b
    obtain ⟨ad, c, rfl, hx⟩ := h
    exact (toN27 (arow_arg ⟨ad, c, rfl, hx⟩) c hl).mono fun r w2 ⟨h1, h2, h3⟩ => ⟨⟨_, h1, h2, Nat.le_refl _⟩, h3⟩
  have HV : Hid (∀ w', Below w.heap.size w w' → Calls Try.prog 49 #[v] w' fun r w'' => (∃ g, r = .returned (.slice (some ⟨g, 0, none⟩) H.length H.length) ∧ Own w'' g H.length (fun i => .int .i64 (H.getD i 0)) ∧ w'.heap.size ≤ g) ∧ Below w'.heap.size w' w'') := fun w' b => by
    have h := V.next b
    obtain ⟨ad, c, rfl, hx⟩ := h
    exact (toN27 (arow_arg ⟨ad, c, rfl, hx⟩) c hh).mono fun r w2 ⟨h1, h2, h3⟩ => ⟨⟨_, h1, h2, Nat.le_refl _⟩, h3⟩
  obtain ⟨ad, c, rfl, -⟩ := U
  obtain ⟨bd, d, rfl, -⟩ := V
  generalize (fun i => Value.int IntKind.i64 (L.getD i 0)) = FL at HU ⊢
  generalize (fun i => Value.int IntKind.i64 (H.getD i 0)) = FH at HV ⊢
  generalize hLn : L.length = n at hl HU ⊢
  generalize hHm : H.length = m at hh HV ⊢
  clear hLn hHm
  obtain ⟨W, hW⟩ : ∃ W, ((w.alloc (.cells #[.slice ad n c, .slice bd m d] 32)).alloc (.cells #[.slice none 0 0, .slice none 0 0] 35)).alloc (.cells #[.slice none 0 0, .slice none 0 0] 35) = W := ⟨_, rfl⟩
  have HWB : Hid (Below w.heap.size w W ∧ W.heap.size = w.heap.size + 3) := by
    rw [← hW]
    exact ⟨((alloc_b).trans ((alloc_b).mono (by simp))).trans ((alloc_b).mono (by simp; omega)), by simp⟩
  have HC : Hid (∀ w', Below W.heap.size W w' → C2 w' w.heap.size (.slice ad n c) (.slice bd m d) ∧ C2 w' (w.heap.size + 1) (.slice none 0 0) (.slice none 0 0) ∧ C2 w' (w.heap.size + 1 + 1) (.slice none 0 0) (.slice none 0 0)) := fun w' b => by
    have h0 := C2.new w 32 (.slice ad n c) (.slice bd m d)
    have h1 := C2.new (w.alloc (.cells #[.slice ad n c, .slice bd m d] 32)) 35 (.slice none 0 0) (.slice none 0 0)
    have h2 := C2.new ((w.alloc (.cells #[.slice ad n c, .slice bd m d] 32)).alloc (.cells #[.slice none 0 0, .slice none 0 0] 35)) 35 (.slice none 0 0) (.slice none 0 0)
    have e1 : (w.alloc (.cells #[.slice ad n c, .slice bd m d] 32)).heap.size = w.heap.size + 1 := by simp
    have e2 : ((w.alloc (.cells #[.slice ad n c, .slice bd m d] 32)).alloc (.cells #[.slice none 0 0, .slice none 0 0] 35)).heap.size = w.heap.size + 1 + 1 := by simp
    rw [e1] at h1
    rw [e2] at h2
    rw [← hW] at b
    exact ⟨((h0.next alloc_b).next alloc_b).next b, (h1.next alloc_b).next b, h2.next b⟩
  subst hW
  go_enter Try.func18, Try.ntmps18
  go_wp2_with (first
    | (go_at_call 49; (with_reducible show Calls Try.prog 49 #[.slice ad n c] _ _); refine (HU.out _ HWB.out.1).mono ?_; rintro e w2 ⟨⟨g, rfl, O2, hg⟩, B2⟩; obtain ⟨P2, R2, Z2⟩ := HC.out w2 B2; (have hg2 : w.heap.size + 3 ≤ g := by have := HWB.out.2; omega); (have D2 := HWB.out.1.trans (B2.mono HWB.out.1.size)); clear hg HC HWB B2; (have z0 := Z2.c0); (have z1 := Z2.c1); (have zf := Z2.f); (have p0 := P2.c0); (have p1 := P2.c1))
    | (go_at_call 49; refine (HV.out _ (D2.setCell (p := ⟨w.heap.size + 1 + 1, 0, none⟩) (by simp; omega) _)).mono ?_; rintro e w3 ⟨⟨h, rfl, O3, hh3⟩, B3⟩; (have D3 := (D2.setCell (p := ⟨w.heap.size + 1 + 1, 0, none⟩) (by simp; omega) (.slice (some ⟨g, 0, none⟩) n n)).trans (B3.mono (by have := D2.size; simp; omega))); (have Z3 := (Z2.s0 (.slice (some ⟨g, 0, none⟩) n n)).next B3); (have R3 := (R2.far (w.heap.size + 1 + 1) 0 (.slice (some ⟨g, 0, none⟩) n n) (by omega)).next B3); (have O2n := (O2.but ((Only.refl (w.heap.size + 1 + 1) w2).setCell 0 (.slice (some ⟨g, 0, none⟩) n n)) (by omega)).next B3); (have hgh : g < h := by have := O2.hi; simp at hh3; omega); (have hh4 : w.heap.size + 3 ≤ h := by have := R2.hi; have := Z2.hi; have := O2.hi; simp at hh3; omega); clear z0 z1 zf p0 p1 P2 R2 Z2 O2 D2 B3 hh3; (have z0 := Z3.c0); (have z1 := Z3.c1); (have zf := Z3.f); (have r0 := R3.c0); (have r1 := R3.c1); (have rf := R3.f)))
  have RF := ((R3.far (w.heap.size + 1 + 1) 1 (.slice (some ⟨h, 0, none⟩) m m) (by omega)).s0 (.slice (some ⟨g, 0, none⟩) n n)).s1 (.slice (some ⟨h, 0, none⟩) m m)
  have ON2 : Only (w.heap.size + 1 + 1) w3 (w3.setCell ⟨w.heap.size + 1 + 1, 1, none⟩ (.slice (some ⟨h, 0, none⟩) m m)) := (Only.refl _ _).setCell _ _
  have OG := ((O2n.but ON2 (by omega)).but ((Only.refl (w.heap.size + 1) _).setCell 0 (.slice (some ⟨g, 0, none⟩) n n)) (by omega)).but ((Only.refl (w.heap.size + 1) _).setCell 1 (.slice (some ⟨h, 0, none⟩) m m)) (by omega)
  have OH := ((O3.but ON2 (by omega)).but ((Only.refl (w.heap.size + 1) _).setCell 0 (.slice (some ⟨g, 0, none⟩) n n)) (by omega)).but ((Only.refl (w.heap.size + 1) _).setCell 1 (.slice (some ⟨h, 0, none⟩) m m)) (by omega)
  have DF := ((D3.setCell (p := ⟨w.heap.size + 1 + 1, 1, none⟩) (by simp; omega) (.slice (some ⟨h, 0, none⟩) m m)).setCell (p := ⟨w.heap.size + 1, 0, none⟩) (by simp) (.slice (some ⟨g, 0, none⟩) n n)).setCell (p := ⟨w.heap.size + 1, 1, none⟩) (by simp) (.slice (some ⟨h, 0, none⟩) m m)
  have q0 := RF.c0
  have q1 := RF.c1
  clear z0 z1 zf r0 r1 rf Z3 R3 O2n O3 D3 ON2
  exact bodyPost_ret (v := .agg #[.slice (some ⟨g, 0, none⟩) n n, .slice (some ⟨h, 0, none⟩) m m]) (by simp [results, Try.results18, go_sem, q0, q1]) rfl ⟨g, h, rfl, by omega, hgh, OG, OH, DF⟩
/-- Two rows as the laws copy them, from block lo on and below hi. -/
def BkR (lo hi : Nat) (w : World) (a : Value) (L H : List Int) : Prop := ∃ g h, a = .agg #[.slice (some ⟨g, 0, none⟩) L.length L.length, .slice (some ⟨h, 0, none⟩) H.length H.length] ∧ Own w g L.length (fun i => .int .i64 (L.getD i 0)) ∧ Own w h H.length (fun i => .int .i64 (H.getD i 0)) ∧ lo ≤ g ∧ g < h ∧ h < hi
theorem BkR.next {lo hi : Nat} {w w' : World} {a : Value} {L H : List Int} (h : BkR lo hi w a L H) (b : Below w.heap.size w w') : BkR lo hi w' a L H := by
  obtain ⟨g, k, e, o1, o2, h3⟩ := h
  exact ⟨g, k, e, o1.next b, o2.next b, h3⟩
theorem BkR.bk {lo hi : Nat} {w : World} {a : Value} {L H : List Int} (h : BkR lo hi w a L H) : Bk w a L H := by
  obtain ⟨g, k, e, o1, o2, h3⟩ := h
  exact ⟨g, k, e, o1, o2⟩
set_option maxRecDepth 100000 in
set_option maxHeartbeats 2000000 in
theorem markR {lo hi : Nat} (a : Value) (L H : List Int) (k : Int) (w : World) (X : BkR lo hi w a L H) (hl : L.length ≤ 1048576) (hh : H.length ≤ 1048576) (k0 : 0 ≤ k) (k1 : k ≤ 500000000000000) : Calls Try.prog 44 #[a, .int .i64 k] w fun r w' => (∃ y : Int, r = .returned (.int .i64 y) ∧ 0 ≤ y) ∧ Btw lo hi w w' := by
  obtain ⟨g, h, rfl, o1, o2, h3, h4, h5⟩ := X
  obtain ⟨W1, hW1⟩ : ∃ W1, w.alloc (.cells #[.slice (some ⟨g, 0, none⟩) L.length L.length, .slice (some ⟨h, 0, none⟩) H.length H.length] 35) = W1 := ⟨_, rfl⟩
  have B1 : Below w.heap.size w W1 := by rw [← hW1]; exact alloc_b
  have CX : C2 W1 w.heap.size (.slice (some ⟨g, 0, none⟩) L.length L.length) (.slice (some ⟨h, 0, none⟩) H.length H.length) := by rw [← hW1]; exact C2.new w _ _ _
  have hg := o1.hi
  have hhh := o2.hi
  have K1 := Hid.mk (markI g L.length L.length _ k W1 (o1.next B1) hl k0 (by omega))
  have K2 : Hid (∀ w2 z, Only g W1 w2 → 0 ≤ z → z ≤ 1000000000000000 → Calls Try.prog 65 #[.slice (some ⟨h, 0, none⟩) H.length H.length, .int .i64 z] w2 fun r w' => r = .returned (.int .i64 (z + H.length)) ∧ Only h w2 w') := fun w2 z ON z0 z1 => markI h H.length H.length _ z w2 ((o2.next B1).but ON (by omega)) hh z0 z1
  have HEND : Hid (∀ w2 w3, Only g W1 w2 → Only h w2 w3 → Btw lo hi w w3) := fun w2 w3 A B => ((Btw.ofBelow B1).trans (Btw.only A h3 (by omega))).trans (Btw.only B (by omega) h5)
  have c0 := CX.c0
  have c1 := CX.c1
  have HNE : Hid (∀ w2, Only g W1 w2 → w2.cell? ⟨w.heap.size, 1, none⟩ = some (.slice (some ⟨h, 0, none⟩) H.length H.length)) := fun w2 A => only_nx CX.c1 A (show w.heap.size ≠ g by omega)
  clear o1 o2 CX B1
  generalize L.length = n at *
  generalize H.length = m at *
  go_enter Try.func44, Try.ntmps44
  go_wp2_with (first
    | (go_at_call 65; (with_reducible show Calls Try.prog 65 _ W1 _); refine K1.out.mono ?_; rintro e w2 ⟨rfl, A2⟩; (have d1 := HNE.out w2 A2); clear c0 c1 K1 HNE)
    | (go_at_call 65; refine (K2.out w2 (k + n) A2 (by omega) (by omega)).mono ?_; rintro e w3 ⟨rfl, A3⟩; (have BF := HEND.out w2 w3 A2 A3)))
  go_ret
  exact ⟨⟨_, rfl, by omega⟩, BF⟩
end Go.Proofs.Ytngmaeinehfimaa
