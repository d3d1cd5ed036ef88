/- Textures as the laws take them: rows of rows of bytes counted, copied, compared; a texture as an argument. -/
import Derived.Test.YthkngcdfnemhaaaAh
import Derived.Deep.Matrix
import Derived.Lib.RowBridge
namespace Go.Proofs.Ythkngcdfnemhaaa
open Go.ChangeShapes Go.WideShapes Go.ChangeAt Go.RowKit
set_option linter.unusedVariables false
/-- A row of bytes, wherever it lies. -/
def BRow (w : World) (v : Value) (L : List Int) : Prop := ∃ ad c, v = .slice ad L.length c ∧ L.length ≤ c ∧ ∀ i, i < L.length → ∃ g o, ad = some ⟨g, o, none⟩ ∧ w.cell? ⟨g, o + i, none⟩ = some (.int .u8 (L.getD i 0))
theorem BRow.next {w w' : World} {v : Value} {L : List Int} (h : BRow w v L) (b : Below w.heap.size w w') : BRow w' v L := by
  obtain ⟨ad, c, h1, hc, h2⟩ := h
  refine ⟨ad, c, h1, hc, fun i hi => ?_⟩
  obtain ⟨g, o, h3, h4⟩ := h2 i hi
  exact ⟨g, o, h3, cell_nx h4 b⟩
/-- m such rows, one behind the other. -/
def BRows (w : World) (v : Value) (m : Nat) (f : Nat → List Int) : Prop := ∃ ad c, v = .slice ad m c ∧ ∀ i, i < m → ∃ q o u, ad = some ⟨q, o, none⟩ ∧ w.cell? ⟨q, o + i, none⟩ = some u ∧ BRow w u (f i)
theorem BRows.next {w w' : World} {v : Value} {m : Nat} {f : Nat → List Int} (h : BRows w v m f) (b : Below w.heap.size w w') : BRows w' v m f := by
  obtain ⟨ad, c, h1, h2⟩ := h
  refine ⟨ad, c, h1, fun i hi => ?_⟩
  obtain ⟨q, o, u, h3, h4, h5⟩ := h2 i hi
  exact ⟨q, o, u, h3, cell_nx h4 b, h5.next b⟩
/-- What the rows hold are bytes. -/
def ByF (n : Nat) (F : Nat → List Int) : Prop := ∀ i j, i < n → j < (F i).length → 0 ≤ (F i).getD j 0 ∧ (F i).getD j 0 ≤ 255
/-- Where each begins, by how long they are. -/
def offs (S : Nat → Nat) : Nat → Nat
  | 0 => 0
  | k + 1 => offs S k + S k
theorem offs_mono (S : Nat → Nat) {x y : Nat} (h : x ≤ y) : offs S x ≤ offs S y := by
  induction y with
  | zero => obtain rfl : x = 0 := by omega
            exact Nat.le_refl _
  | succ y ih =>
    by_cases e : x = y + 1
    · subst e; exact Nat.le_refl _
    · have := ih (by omega)
      rw [offs]
      omega
theorem offs_lt (S : Nat → Nat) {x y : Nat} (h : x < y) : offs S x + S x ≤ offs S y := by
  have := offs_mono S (show x + 1 ≤ y by omega)
  rwa [offs] at this
def tot (L : Nat → List Int) (m : Nat) : Nat := offs (fun x => (L x).length) m
/-- Only blocks from lo to hi have changed. -/
structure Btw (lo hi : Nat) (w w' : World) : Prop where
  os : w'.os = w.os
  tape : w'.tape = w.tape
  output : w'.output = w.output
  size : w.heap.size ≤ w'.heap.size
  block : ∀ k, k < w.heap.size → k < lo ∨ hi ≤ k → w'.heap[k]? = w.heap[k]?
theorem Btw.refl (lo hi : Nat) (w : World) : Btw lo hi w w := ⟨rfl, rfl, rfl, Nat.le_refl _, fun _ _ _ => rfl⟩
theorem Btw.trans {lo hi : Nat} {a b c : World} (h : Btw lo hi a b) (k : Btw lo hi b c) : Btw lo hi a c := ⟨k.os.trans h.os, k.tape.trans h.tape, k.output.trans h.output, Nat.le_trans h.size k.size, fun i hi q => (k.block i (by have := h.size; omega) q).trans (h.block i hi q)⟩
theorem Btw.setCell {lo hi : Nat} {a w : World} {g : Nat} (h : Btw lo hi a w) (h1 : lo ≤ g) (h2 : g < hi) (j : Nat) (v : Value) : Btw lo hi a (w.setCell ⟨g, j, none⟩ v) := h.trans ⟨rfl, rfl, rfl, by simp [World.setCell], fun k _ hk => Below.heap_setCell _ _ _ _ (by show k ≠ g; omega)⟩
theorem Btw.below {lo hi : Nat} {a w : World} (h : Btw lo hi a w) (hs : lo ≤ a.heap.size) : Below lo a w := ⟨h.os, h.tape, h.output, h.size, fun k hk => h.block k (by omega) (Or.inl hk)⟩
theorem Btw.cell {lo hi : Nat} {w w' : World} (b : Btw lo hi w w') {g i : Nat} {v : Value} (h : w.cell? ⟨g, i, none⟩ = some v) (q : g < lo ∨ hi ≤ g) : w'.cell? ⟨g, i, none⟩ = some v := (World.cell?_of_block (w := w) (a := ⟨g, i, none⟩) (b.block g (World.block_lt_of_cell? _ _ h) q)).trans h
theorem Own.btw {w w' : World} {g n a b : Nat} {f : Nat → Value} (O : Own w g n f) (k : Btw a b w w') (q : g < a ∨ b ≤ g) : Own w' g n f := ⟨fun i hi => k.cell (O.cell i hi) q, fun i => (World.frozen?_of_block (w := w) (a := ⟨g, i, none⟩) (k.block g O.hi q)).trans (O.free i), by have := k.size; have := O.hi; omega⟩
theorem brow_arg {w : World} {a : Option Addr} {n c : Nat} {L : List Int} (h : BRow w (.slice a n c) L) : Arg w a n (fun i => .int .u8 (L.getD i 0)) := by
  obtain ⟨ad, c', h1, _, h2⟩ := h
  injection h1 with h1 h3 h4
  subst h1; subst h3
  by_cases e : L.length = 0
  · exact Or.inl e
  · obtain ⟨g, o, rfl, hc⟩ := h2 0 (by omega)
    refine Or.inr ⟨g, o, rfl, World.block_lt_of_cell? _ _ hc, fun i hi => ?_⟩
    obtain ⟨g', o', e1, e2⟩ := h2 i hi
    injection e1 with e1
    injection e1 with e1 e3
    subst e1; subst e3
    exact e2
theorem infoR : (Try.prog.info? 28).map (fun i => (i.zero, i.size, i.bytes)) = some (some (.slice none 0 0), 1, 24) := by kernel_rfl
theorem szI (a : Option Addr) (l c : Nat) (z : Int) (w : World) (hl : l ≤ 9223372036854775807) (z0 : 0 ≤ z) (z1 : z ≤ 1048576) : Calls Try.prog 72 #[.slice a l c, .int .i64 z] w fun r w' => r = .returned (.int .i64 (if z < (l : Int) then -1 else z - l)) ∧ w' = w := by
  have e0 : IntKind.i64.wrap (z - (l : Int)) = z - (l : Int) := (IntKind.wrap_i64 _).trans (by omega)
  by_cases h : z < (l : Int)
  · have h1 : z - (l : Int) < 0 := by omega
    rw [if_pos h]
    go_enter Try.func72, Try.ntmps72
    go_wp2
    go_ret
    exact ⟨rfl, rfl⟩
  · have h1 : ¬ z - (l : Int) < 0 := by omega
    rw [if_neg h]
    go_enter Try.func72, Try.ntmps72
    go_wp2
    go_ret
    exact ⟨rfl, rfl⟩
theorem tot_succ (f : Nat → List Int) (k : Nat) : tot f (k + 1) = tot f k + (f k).length := rfl
theorem tot_le (f : Nat → List Int) {i n : Nat} (h : i < n) : (f i).length ≤ tot f n := by
  have := offs_lt (fun x => (f x).length) h
  unfold tot
  omega
set_option maxRecDepth 100000 in
set_option maxHeartbeats 1000000 in
theorem szR (u : Value) (n : Nat) (f : Nat → List Int) (w : World) (X : BRows w u n f) (hn : n ≤ 9223372036854775807) (hL : ∀ i, i < n → (f i).length ≤ 9223372036854775807) (z : Int) (z0 : 0 ≤ z) (z1 : z ≤ 1048576) :
    Calls Try.prog 47 #[u, .int .i64 z] w fun r w' => (∃ y : Int, r = .returned (.int .i64 y) ∧ (y < 0 ∨ 0 ≤ y ∧ y ≤ z ∧ (n : Int) + (tot f n : Int) + y ≤ z)) ∧ w' = w := by
  obtain ⟨a, cap, rfl, hx⟩ := X
  have e0 : IntKind.i64.wrap (z - (n : Int)) = z - (n : Int) := (IntKind.wrap_i64 _).trans (by omega)
  by_cases h : z < (n : Int)
  · have h1 : z - (n : Int) < 0 := by omega
    clear hx
    go_enter Try.func47, Try.ntmps47
    go_wp2
    go_ret
    exact ⟨⟨_, rfl, Or.inl (by omega)⟩, rfl⟩
  have h1 : ¬ z - (n : Int) < 0 := by omega
  have HX := Hid.mk hx
  have HL := Hid.mk hL
  have HT0 : Hid (tot f 0 = 0) := rfl
  clear hx hL
  go_enter Try.func47, Try.ntmps47
  go_wp2
  go_loop [1, 5] (fun y i => ∃ (k : Nat) (u : Int), k ≤ n ∧ i = .int .i64 k ∧ y = .int .i64 u ∧ 0 ≤ u ∧ u ≤ 1048576 ∧ Hid ((tot f k : Int) + u + n ≤ z)) (fun _ i => n - (intOf i).toNat)
  case atStart => exact ⟨0, _, by omega, rfl, rfl, by omega, by omega, by show (_ : Int) ≤ _; rw [HT0.out]; simp⟩
  case round =>
    obtain ⟨k, u, hk, rfl, rfl, u0, u1, hu⟩ := hrel
    by_cases hkn : k < n
    · have i1 : (k : Int) < (n : Int) := by omega
      have i0 : (0 : Int) ≤ (k : Int) := by omega
      obtain ⟨q, o, uu, rfl, hc, ra, rc, rfl, _, _⟩ := HX.out k hkn
      have hlk := HL.out k hkn
      have H76 : Hid (∀ w', Calls Try.prog 72 #[.slice ra (f k).length rc, .int .i64 u] w' fun r w'' => r = .returned (.int .i64 (if u < ((f k).length : Int) then -1 else u - (f k).length)) ∧ w'' = w') := fun w' => szI ra _ rc u w' hlk u0 u1
      have HcL : Hid (tot f (k + 1) = tot f k + (f k).length) := rfl
      generalize (f k).length = lk at hc hlk H76 HcL
      by_cases hh : u < (lk : Int)
      · rw [if_pos hh] at H76
        go_wp2_with (go_at_call 72; refine (H76.out _).mono ?_; rintro e w' ⟨rfl, hw'⟩; subst w')
        go_ret
        exact ⟨⟨_, rfl, Or.inl (by omega)⟩, rfl⟩
      · rw [if_neg hh] at H76
        obtain ⟨y, hy⟩ : ∃ y : Int, u - (lk : Int) = y := ⟨_, rfl⟩
        rw [hy] at H76
        have y0 : ¬ y < 0 := by omega
        go_wp2_with (go_at_call 72; refine (H76.out _).mono ?_; rintro e w' ⟨rfl, hw'⟩; subst w')
        go_round
        case rel => exact ⟨k + 1, y, by omega, by go_num, rfl, by omega, by omega, by have := HcL.out; have := hu.out; show (_ : Int) ≤ _; omega⟩
        case measure => simp [intOf]; omega
    · have hkk : k = n := by omega
      subst hkk
      go_wp2
      go_ret
      exact ⟨⟨_, rfl, Or.inr ⟨u0, by have := hu.out; omega, by have := hu.out; omega⟩⟩, rfl⟩
/-- Rows that are being copied: k of n are there, each in a block of its own behind z, one behind the other. -/
structure Cp (z n k : Nat) (f : Nat → List Int) (p : Nat → Nat) (w : World) : Prop where
  c : ∀ x, x < k → w.cell? ⟨z, x, none⟩ = some (.slice (some ⟨p x, 0, none⟩) (f x).length (f x).length)
  e : ∀ x, x < n → ∃ v, w.cell? ⟨z, x, none⟩ = some v
  r : ∀ x, x < k → Own w (p x) (f x).length (fun i => .int .u8 ((f x).getD i 0))
  i : ∀ x y, x < y → y < k → p x < p y
  g : ∀ x, x < k → z < p x
  f0 : ∀ i, w.frozen? ⟨z, i, none⟩ = false
  hz : z < w.heap.size
theorem Cp.step {z n k : Nat} {f : Nat → List Int} {p : Nat → Nat} {w w' : World} (h : Cp z n k f p w) (hk : k < n) (O : Own w' w.heap.size (f k).length (fun i => .int .u8 ((f k).getD i 0))) (b : Below w.heap.size w w') : Cp z n (k + 1) f (fun x => if x = k then w.heap.size else p x) (w'.setCell ⟨z, k, none⟩ (.slice (some ⟨w.heap.size, 0, none⟩) (f k).length (f k).length)) := by
  have hzz := h.hz
  obtain ⟨v0, hv0⟩ := h.e k hk
  have On : Only z w' (w'.setCell ⟨z, k, none⟩ (.slice (some ⟨w.heap.size, 0, none⟩) (f k).length (f k).length)) := (Only.refl _ _).setCell _ _
  refine ⟨fun x hx => ?_, fun x hx => ?_, fun x hx => ?_, fun x y hxy hy => ?_, fun x hx => ?_, fun i => ?_, ?_⟩
  · by_cases e : x = k
    · subst e
      simp only [if_true]
      exact World.cell?_setCell_same' _ _ _ (by rw [cell_nx hv0 b]; rfl)
    · simp only [if_neg e]
      rw [World.cell?_setCell_other (h := addr_ne (fun q => e q.symm))]
      exact cell_nx (h.c x (by omega)) b
  · by_cases e : x = k
    · subst e
      exact ⟨_, World.cell?_setCell_same' _ _ _ (by rw [cell_nx hv0 b]; rfl)⟩
    · obtain ⟨v, hv⟩ := h.e x hx
      exact ⟨v, by rw [World.cell?_setCell_other (h := addr_ne (fun q => e q.symm))]; exact cell_nx hv b⟩
  · by_cases e : x = k
    · subst e
      simp only [if_true]
      exact O.but On (by omega)
    · simp only [if_neg e]
      exact ((h.r x (by omega)).next b).but On (by have := h.g x (by omega); omega)
  · have e : x ≠ k := by omega
    simp only [if_neg e]
    by_cases e2 : y = k
    · simp only [if_pos e2]
      exact (h.r x (by omega)).hi
    · simp only [if_neg e2]
      exact h.i x y hxy (by omega)
  · by_cases e : x = k
    · simp only [if_pos e]; exact hzz
    · simp only [if_neg e]; exact h.g x (by omega)
  · simp [(b.frozen (p := ⟨z, i, none⟩) h.hz).trans (h.f0 i)]
  · have := b.size
    simp
    omega
theorem Cp.next {z n k : Nat} {f : Nat → List Int} {p : Nat → Nat} {w w' : World} (h : Cp z n k f p w) (b : Below w.heap.size w w') : Cp z n k f p w' :=
  ⟨fun x hx => cell_nx (h.c x hx) b, fun x hx => by obtain ⟨v, hv⟩ := h.e x hx; exact ⟨v, cell_nx hv b⟩, fun x hx => (h.r x hx).next b, h.i, h.g, fun i => (b.frozen (p := ⟨z, i, none⟩) h.hz).trans (h.f0 i), by have := b.size; have := h.hz; omega⟩
theorem Cp.btw {z n k a b : Nat} {f : Nat → List Int} {p : Nat → Nat} {w w' : World} (h : Cp z n k f p w) (t : Btw a b w w') (q : b ≤ z) : Cp z n k f p w' :=
  ⟨fun x hx => t.cell (h.c x hx) (by omega), fun x hx => by obtain ⟨v, hv⟩ := h.e x hx; exact ⟨v, t.cell hv (by omega)⟩, fun x hx => (h.r x hx).btw t (by have := h.g x hx; omega), h.i, h.g, fun i => (World.frozen?_of_block (w := w) (a := ⟨z, i, none⟩) (t.block z h.hz (by omega))).trans (h.f0 i), by have := t.size; have := h.hz; omega⟩
theorem Cp.rows {z n : Nat} {f : Nat → List Int} {p : Nat → Nat} {w : World} (h : Cp z n n f p w) : BRows w (.slice (some ⟨z, 0, none⟩) n n) n f :=
  ⟨_, n, rfl, fun x hx => ⟨z, 0, _, rfl, by rw [Nat.zero_add]; exact h.c x hx, _, _, rfl, Nat.le_refl _, fun i hi => ⟨p x, 0, rfl, by rw [Nat.zero_add]; exact (h.r x hx).cell i hi⟩⟩⟩
set_option maxRecDepth 100000 in
set_option maxHeartbeats 1000000 in
theorem toR (u : Value) (n : Nat) (f : Nat → List Int) (w : World) (X : BRows w u n f) (hn : n ≤ 1048576) (hL : ∀ i, i < n → (f i).length ≤ 1048576) : Calls Try.prog 50 #[u] w fun r w' => r = .returned (.slice (some ⟨w.heap.size, 0, none⟩) n n) ∧ (∃ p, Cp w.heap.size n n f p w') ∧ Below w.heap.size w w' := by
  obtain ⟨iS, hiS, hzS0, hzS1, hzS2⟩ := info_parts infoR
  obtain ⟨a, cap, rfl, hx⟩ := X
  have HX := Hid.mk hx
  have HL := Hid.mk hL
  clear hx hL
  go_enter Try.func50, Try.ntmps50
  go_wp2_with (at_make; refine wpList_make_full _ rfl _ _ 38 rfl w.heap.size 28 iS (.slice none 0 0) 1 Try.underlying38 hiS hzS0 hzS1 _ _ _ _ n rfl rfl (by first | rfl | omega) (by first | rfl | omega) (by rw [hzS2]; omega) (by unfold maxLen; omega) (by simp) ?_; intro w2 hown2 hgrow2)
  have O2 : Own w2 w.heap.size n (fun _ => .slice none 0 0) := own_made hown2
  have B2 : Hid (Below w.heap.size w w2) := (Below.refl _ _).grown hgrow2 (Nat.le_refl _) (by simp)
  have P2 : Hid (Cp w.heap.size n 0 f (fun _ => 0) w2) := ⟨fun x hx => absurd hx (Nat.not_lt_zero _), fun x hx => ⟨_, O2.cell x hx⟩, fun x hx => absurd hx (Nat.not_lt_zero _), fun x y _ hy => absurd hy (Nat.not_lt_zero _), fun x hx => absurd hx (Nat.not_lt_zero _), O2.free, O2.hi⟩
  clear O2 hown2 hgrow2
  obtain ⟨z, hz⟩ : ∃ z, w.heap.size = z := ⟨_, rfl⟩
  have HZ : Hid (w.heap.size = z) := hz
  rw [hz] at P2 B2 ⊢
  clear hz
  go_loopw [4] (fun i wr => ∃ (k : Nat) (p : Nat → Nat), k ≤ n ∧ i = .int .i64 k ∧ Hid (Cp z n k f p wr) ∧ Hid (Below z w wr)) (fun i _ => n - (intOf i).toNat)
  case atStart => exact ⟨0, _, Nat.zero_le _, rfl, P2, B2⟩
  case round =>
    obtain ⟨k, p, hk, rfl, HC, HB⟩ := hrel
    clear P2 B2
    by_cases hkn : k < n
    case neg =>
      obtain rfl : n = k := by omega
      have i1 : ¬ (n : Int) < (n : Int) := by omega
      go_wp2
      go_ret
      exact ⟨by rw [HZ.out]; rfl, by rw [HZ.out]; exact ⟨p, HC.out⟩, by rw [HZ.out]; exact HB.out⟩
    have i1 : (k : Int) < (n : Int) := by omega
    have i0 : (0 : Int) ≤ (k : Int) := by omega
    obtain ⟨q, o, uu, rfl, hc0, hrow⟩ := HX.out k hkn
    have B' : Below w.heap.size w wr := by rw [HZ.out]; exact HB.out
    have hc := cell_nx hc0 B'
    have hrow2 := hrow.next B'
    obtain ⟨ra, rc, rfl, _, _⟩ := hrow
    have h19 := argY (brow_arg hrow2) rc (HL.out k hkn)
    obtain ⟨v0, hv0⟩ := HC.out.e k hkn
    have HV : Hid (∀ w', Below wr.heap.size wr w' → (∃ v, w'.cell? ⟨z, k, none⟩ = some v) ∧ w'.frozen? ⟨z, k, none⟩ = false) := fun w' b => ⟨⟨v0, cell_nx hv0 b⟩, (b.frozen (p := ⟨z, k, none⟩) HC.out.hz).trans (HC.out.f0 k)⟩
    clear hc0 hrow2 hv0
    go_wp2_with (go_at_call 20; refine h19.mono ?_; rintro e w3 ⟨rfl, O3, B3⟩; (obtain ⟨⟨v3, hv3⟩, hf3⟩ := HV.out w3 B3))
    have CN := Hid.mk (HC.out.step hkn O3 B3)
    have BN : Hid (Below z w (w3.setCell ⟨z, k, none⟩ (.slice (some ⟨wr.heap.size, 0, none⟩) (f k).length (f k).length))) := (HB.out.trans (B3.mono (by have := HC.out.hz; omega))).setCell (p := ⟨z, k, none⟩) (Nat.le_refl _) _
    clear HC HB O3 B3 h19
    go_roundw
    case rel => exact ⟨k + 1, _, by omega, by go_num, CN, BN⟩
    case measure => simp [intOf]; omega
set_option maxRecDepth 100000 in
theorem szX (s y l : Int) (u : Value) (n : Nat) (f : Nat → List Int) (w : World) (X : BRows w u n f) (hn : n ≤ 9223372036854775807) (hL : ∀ i, i < n → (f i).length ≤ 9223372036854775807) (z : Int) (z0 : 0 ≤ z) (z1 : z ≤ 1048576) :
    Calls Try.prog 23 #[.agg #[.int .i64 s, .int .i64 y, .int .i64 l, u], .int .i64 z] w fun r w' => (∃ x : Int, r = .returned (.int .i64 x) ∧ (x < 0 ∨ 0 ≤ x ∧ x ≤ z ∧ (n : Int) + (tot f n : Int) + x ≤ z)) ∧ Below w.heap.size w w' := by
  have B1 : Below w.heap.size w (w.alloc (.cells #[.int .i64 s, .int .i64 y, .int .i64 l, u] 40)) := alloc_b
  have h59 := szR u n f _ (X.next B1) hn hL z z0 z1
  have HB := Hid.mk B1
  clear X B1
  go_enter Try.func23, Try.ntmps23
  go_wp2_with (go_at_call 47; refine h59.mono ?_; rintro e w2 ⟨⟨x, rfl, hx⟩, hw⟩; subst w2)
  · go_ret
    exact ⟨⟨_, rfl, Or.inl (by decide)⟩, HB.out⟩
  · go_ret
    exact ⟨⟨_, rfl, hx⟩, HB.out⟩
set_option maxRecDepth 100000 in
set_option maxHeartbeats 1000000 in
theorem toX (s y l : Int) (u : Value) (n : Nat) (f : Nat → List Int) (w : World) (X : BRows w u n f) (hn : n ≤ 1048576) (hL : ∀ i, i < n → (f i).length ≤ 1048576) :
    Calls Try.prog 25 #[.agg #[.int .i64 s, .int .i64 y, .int .i64 l, u]] w fun r w' => ∃ g, r = .returned (.agg #[.int .i64 s, .int .i64 y, .int .i64 l, .slice (some ⟨g, 0, none⟩) n n]) ∧ w.heap.size ≤ g ∧ (∃ p, Cp g n n f p w') ∧ Below w.heap.size w w' := by
  obtain ⟨W, hW⟩ : ∃ W, W = ((w.alloc (.cells #[.int .i64 s, .int .i64 y, .int .i64 l, u] 40)).alloc (.cells #[.int .i64 0, .int .i64 0, .int .i64 0, .slice none 0 0] 43)).alloc (.cells #[.int .i64 s, .int .i64 y, .int .i64 l, .slice none 0 0] 43) := ⟨_, rfl⟩
  have BW : Below w.heap.size w W := by rw [hW]; exact b3
  have D0 : C4 W w.heap.size (.int .i64 s) (.int .i64 y) (.int .i64 l) u := by rw [hW]; exact ((C4.new _ _ _ _ _ _).next alloc_b).next alloc_b
  have D1 : C4 W (w.heap.size + 1) (.int .i64 0) (.int .i64 0) (.int .i64 0) (.slice none 0 0) := by
    rw [hW]
    have := (C4.new (w.alloc (.cells #[.int .i64 s, .int .i64 y, .int .i64 l, u] 40)) 43 (.int .i64 0) (.int .i64 0) (.int .i64 0) (.slice none 0 0)).next (alloc_b (o := .cells #[.int .i64 s, .int .i64 y, .int .i64 l, .slice none 0 0] 43))
    rwa [World.size_alloc] at this
  have D2 : C4 W (w.heap.size + 1 + 1) (.int .i64 s) (.int .i64 y) (.int .i64 l) (.slice none 0 0) := by
    rw [hW]
    have := C4.new ((w.alloc (.cells #[.int .i64 s, .int .i64 y, .int .i64 l, u] 40)).alloc (.cells #[.int .i64 0, .int .i64 0, .int .i64 0, .slice none 0 0] 43)) 43 (.int .i64 s) (.int .i64 y) (.int .i64 l) (.slice none 0 0)
    rwa [World.size_alloc, World.size_alloc] at this
  have h60 := toR u n f W (X.next BW) hn hL
  have HD : Hid (∀ w', Below W.heap.size W w' → C4 w' w.heap.size (.int .i64 s) (.int .i64 y) (.int .i64 l) u ∧ C4 w' (w.heap.size + 1) (.int .i64 0) (.int .i64 0) (.int .i64 0) (.slice none 0 0) ∧ C4 w' (w.heap.size + 1 + 1) (.int .i64 s) (.int .i64 y) (.int .i64 l) (.slice none 0 0)) := fun w' b => ⟨D0.next b, D1.next b, D2.next b⟩
  have HBW := Hid.mk BW
  have HSW : Hid (W.heap.size = w.heap.size + 1 + 1 + 1) := by show _ = _; rw [hW]; simp
  clear X BW D0 D1 D2
  obtain ⟨z, hz⟩ : ∃ z, W.heap.size = z := ⟨_, rfl⟩
  rw [hz] at h60 HSW
  have HZ := Hid.mk hz
  clear hz
  subst hW
  go_enter Try.func25, Try.ntmps25
  go_wp2_with (go_at_call 50; refine h60.mono ?_; rintro e w2 ⟨rfl, ⟨pp, X2⟩, B2⟩; (obtain ⟨E0, E1, E2⟩ := HD.out w2 (by rw [HZ.out]; exact B2)); (have q0 := E1.c0); (have q1 := E1.c1); (have q2 := E1.c2); (have q3 := E1.c3); (have qf := E1.f); (have r0 := E2.c0); (have r1 := E2.c1); (have r2 := E2.c2); (have r3 := E2.c3); (have rf := E2.f))
  have F2 := (E2.s3 (.slice (some ⟨z, 0, none⟩) n n))
  have F1 : C4 (w2.setCell ⟨w.heap.size + 1 + 1, 3, none⟩ (.slice (some ⟨z, 0, none⟩) n n)) (w.heap.size + 1) (.int .i64 0) (.int .i64 0) (.int .i64 0) (.slice none 0 0) := E1.block (((Only.refl (w.heap.size + 1 + 1) w2).setCell _ _).block _ E1.hi (by omega)) (by simp)
  have FN := F1.put (.int .i64 s) (.int .i64 y) (.int .i64 l) (.slice (some ⟨z, 0, none⟩) n n)
  have TN : Btw w.heap.size z w2 (set4 (w2.setCell ⟨w.heap.size + 1 + 1, 3, none⟩ (.slice (some ⟨z, 0, none⟩) n n)) (w.heap.size + 1) (.int .i64 s) (.int .i64 y) (.int .i64 l) (.slice (some ⟨z, 0, none⟩) n n)) := by
    have h := HSW.out
    unfold set4
    exact (((((Btw.refl _ _ w2).setCell (by omega) (by omega) _ _).setCell (by omega) (by omega) _ _).setCell (by omega) (by omega) _ _).setCell (by omega) (by omega) _ _).setCell (by omega) (by omega) _ _
  have BN := (HBW.out.trans ((by have := B2; rw [← HZ.out] at this; exact this : Below _ _ w2).mono HBW.out.size)).trans (TN.below (by have := E0.hi; omega))
  have XN := X2.btw TN (Nat.le_refl _)
  clear E0 E1 E2 q0 q1 q2 q3 qf r0 r1 r2 r3 rf F1 F2 X2 TN h60 HD HBW B2
  show bodyPost _ _ _ _ _ (set4 (w2.setCell ⟨w.heap.size + 1 + 1, 3, none⟩ (.slice (some ⟨z, 0, none⟩) n n)) (w.heap.size + 1) (.int .i64 s) (.int .i64 y) (.int .i64 l) (.slice (some ⟨z, 0, none⟩) n n))
  generalize set4 (w2.setCell ⟨w.heap.size + 1 + 1, 3, none⟩ (.slice (some ⟨z, 0, none⟩) n n)) (w.heap.size + 1) (.int .i64 s) (.int .i64 y) (.int .i64 l) (.slice (some ⟨z, 0, none⟩) n n) = V at FN BN XN ⊢
  have r0 := FN.c0
  have r1 := FN.c1
  have r2 := FN.c2
  have r3 := FN.c3
  exact bodyPost_ret (v := .agg #[.int .i64 s, .int .i64 y, .int .i64 l, .slice (some ⟨z, 0, none⟩) n n]) (by simp [results, Try.results25, go_sem, r0, r1, r2, r3]) rfl ⟨z, rfl, by have := HSW.out; omega, ⟨pp, XN⟩, BN⟩
set_option maxRecDepth 100000 in
set_option maxHeartbeats 4000000 in
theorem eqYY (m : Nat) (L : Nat → List Int) (w : World) (hm : m ≤ 1048576) (hl : ∀ i, i < m → (L i).length ≤ 1048576) (za zb : Nat) (pa pb : Nat → Nat) (U : Cp za m m L pa w) (V : Cp zb m m L pb w) : Calls Try.prog 54 #[.slice (some ⟨za, 0, none⟩) m m, .slice (some ⟨zb, 0, none⟩) m m] w fun r w' => r = .returned (.bool true) ∧ Below w.heap.size w w' := by
  have ha := Hid.mk U
  have hb := Hid.mk V
  have hL := Hid.mk hl
  clear U V hl
  go_enter Try.func54, Try.ntmps54
  go_wp2
  go_loopw [5] (fun i wx => ∃ k : Nat, k ≤ m ∧ i = .int .i64 k ∧ Below w.heap.size w wx) (fun i _ => m - (intOf i).toNat)
  case atStart => exact ⟨0, by omega, rfl, Below.refl _ _⟩
  case round =>
    obtain ⟨k, hk, rfl, B⟩ := hrel
    by_cases hkn : k < m
    · have c1 := ha.out.c k hkn
      have c2 := hb.out.c k hkn
      have d1 := cell_nx c1 B
      have d2 := cell_nx c2 B
      have h25 : ∀ v, Below w.heap.size w v → Calls Try.prog 16 #[.slice (some ⟨pa k, 0, none⟩) (L k).length (L k).length, .slice (some ⟨pb k, 0, none⟩) (L k).length (L k).length] v fun r w' => r = .returned (.bool true) ∧ ∃ k, w' = v.drewN k := fun v b => eqY _ _ _ _ _ (fun i => (L k).getD i 0) v (hL.out k hkn) ((ha.out.r k hkn).next b).cell ((hb.out.r k hkn).next b).cell
      have BD : Below w.heap.size w wr.drew := below_drew B
      have i0 : (0 : Int) ≤ (k : Int) := by omega
      have i1 : (k : Int) < (m : Int) := by omega
      clear c1 c2
      go_wp2
      go_region_with (go_at_call 16; refine (h25 _ ?_).mono ?_; (focus (first | with_reducible exact BD | with_reducible exact B)); rintro e w2 ⟨rfl, q2, hw2⟩; (have B3 : Below wr.heap.size wr w2 := by rw [hw2]; first | exact below_drewN (below_drew (Below.refl _ _)) q2 | exact below_drewN (Below.refl _ _) q2); clear hw2)
      all_goals
        go_wp2
        go_roundw
        case rel => exact ⟨k + 1, by omega, by go_num, B.trans (B3.mono B.size)⟩
        case measure => simp [intOf]; omega
    · have hkk : k = m := by omega
      subst hkk
      go_wp2
      go_ret
      exact ⟨rfl, B⟩
set_option maxRecDepth 100000 in
set_option maxHeartbeats 1000000 in
theorem eqX (s y l : Int) (n : Nat) (f : Nat → List Int) (w : World) (za zb : Nat) (pa pb : Nat → Nat) (U : Cp za n n f pa w) (V : Cp zb n n f pb w) (hn : n ≤ 1048576) (hl : ∀ x, x < n → (f x).length ≤ 1048576) : Calls Try.prog 27 #[.agg #[.int .i64 s, .int .i64 y, .int .i64 l, .slice (some ⟨za, 0, none⟩) n n], .agg #[.int .i64 s, .int .i64 y, .int .i64 l, .slice (some ⟨zb, 0, none⟩) n n]] w fun e w' => e = .returned (.bool true) ∧ Below w.heap.size w w' := by
  have HE : Hid (∀ w', Below w.heap.size w w' → Calls Try.prog 54 #[.slice (some ⟨za, 0, none⟩) n n, .slice (some ⟨zb, 0, none⟩) n n] w' fun r w'' => r = .returned (.bool true) ∧ Below w'.heap.size w' w'') := fun w' b => eqYY n f w' hn hl za zb pa pb (U.next b) (V.next b)
  have HB : Hid (Below w.heap.size w ((w.alloc (.cells #[.int .i64 s, .int .i64 y, .int .i64 l, .slice (some ⟨za, 0, none⟩) n n] 43)).alloc (.cells #[.int .i64 s, .int .i64 y, .int .i64 l, .slice (some ⟨zb, 0, none⟩) n n] 43))) := b2
  clear U V
  go_enter Try.func27, Try.ntmps27
  go_wp2_with (go_at_call 54; refine (HE.out _ HB.out).mono ?_; rintro e w2 ⟨rfl, B2⟩; (have BZ := HB.out.trans (B2.mono HB.out.size)))
  go_ret
  exact ⟨rfl, BZ⟩
section
variable {H : Type} {enc : TypeId × Value → H} {P : Program} {W : World} {base : Nat}
theorem viewX {e ei eq : TypeId} {f0 f1 f2 f3 : Field} {v : Value} {d : DataW H} {p : List MemPlace} (he : P.underlying e = some (.struct #[f0, f1, f2, f3])) (ce : P.cellsOf e = 4)
    (o0 : f0.offset = 0) (o1 : f1.offset = 1) (o2 : f2.offset = 2) (o3 : f3.offset = 3) (c0 : P.cellsOf f0.type = 1) (c1 : P.cellsOf f1.type = 1) (c2 : P.cellsOf f2.type = 1) (c3 : P.cellsOf f3.type = 1) (u0 : P.underlying f0.type = some (.int .i64)) (u1 : P.underlying f1.type = some (.int .i64)) (u2 : P.underlying f2.type = some (.int .i64)) (u3 : P.underlying f3.type = some (.slice ei)) (ue : P.underlying ei = some (.slice eq)) (uq : P.underlying eq = some (.int .u8)) (cei : P.cellsOf ei = 1) (ceq : P.cellsOf eq = 1)
    (hok : Value.okWide P W .any base e v) (h : DataW.Trod enc P W 0 (fun _ => true) true e v d p) :
    ∃ (s y l : Int) (ad : Option Addr) (n cp : Nat) (f : Nat → List Int), v = .agg #[.int .i64 s, .int .i64 y, .int .i64 l, .slice ad n cp] ∧ n ≤ 9223372036854775807 ∧ BRows W (.slice ad n cp) n f ∧ (∀ i, i < n → (f i).length ≤ 9223372036854775807) ∧ ByF n f := by
  obtain ⟨cs, rfl, hs⟩ := okWide_struct he hok
  obtain ⟨fuel, h2⟩ := h
  rw [ce] at hs
  obtain ⟨l⟩ := cs
  simp only [Value.cells] at h2
  obtain ⟨xs, k, hk, hxy, _, hxl, hf⟩ := DataW.trod_struct he h2
  match xs, hxl, l, hs with
  | [y0, y1, y2, y3], _, [v0, v1, v2, v3], _ =>
    have g0 := hf 0 f0 rfl
    have g1 := hf 1 f1 rfl
    have g2 := hf 2 f2 rfl
    have g3 := hf 3 f3 rfl
    simp [o0, o1, o2, o3, c0, c1, c2, c3] at g0 g1 g2 g3
    obtain ⟨n0, hv0, _, _⟩ := DataW.trod_int u0 g0
    obtain ⟨n1, hv1, _, _⟩ := DataW.trod_int u1 g1
    obtain ⟨n2, hv2, _, _⟩ := DataW.trod_int u2 g2
    simp only [List.cons.injEq, and_true] at hv0 hv1 hv2
    subst hv0 hv1 hv2
    rcases Go.Deep.open_int_rows u3 ue uq cei ceq g3 with ⟨hcs, _⟩ | ⟨a, len, cap, A, L, C, Z, hcs, _, hl, hm, _, hr⟩
    · simp at hcs
      subst hcs
      exact ⟨n0, n1, n2, none, 0, 0, fun _ => [], rfl, by omega, ⟨_, _, rfl, fun i hi => absurd hi (Nat.not_lt_zero _)⟩, fun i hi => absurd hi (Nat.not_lt_zero _), fun i j hi => absurd hi (Nat.not_lt_zero _)⟩
    · simp at hcs
      subst hcs
      refine ⟨n0, n1, n2, some a, len, cap, fun i => (Z i).take (L i), rfl, by unfold maxLen at hm; omega, ⟨_, _, rfl, fun i hi => ?_⟩, fun i hi => ?_, fun i j hi hj => ?_⟩
      · obtain ⟨hc, hlc, hcm, hzl, _, hnone, hsome⟩ := hr i (by omega)
        obtain ⟨b, off, spot⟩ := a
        have hspot : spot = none := by simpa [Addr.add] using World.cell?_spot (hr 0 (by omega)).1
        subst hspot
        have hlen : ((Z i).take (L i)).length = L i := by rw [List.length_take]; omega
        refine ⟨b, off, .slice (A i) (L i) (C i), rfl, by rw [← add_plain]; exact hc, A i, C i, by rw [hlen], by rw [hlen]; exact hlc, fun j hj => ?_⟩
        rw [hlen] at hj
        cases hA : A i with
        | none => have := hnone hA; omega
        | some a' =>
          obtain ⟨_, hcell⟩ := hsome a' hA
          have hcj := hcell j (by omega)
          obtain ⟨b', off', spot'⟩ := a'
          have hspot : spot' = none := by simpa [Addr.add] using World.cell?_spot (hcell 0 (by omega))
          subst hspot
          exact ⟨b', off', rfl, by rw [← add_plain, hcj]; simp [List.getD, hj]⟩
      · have := (hr i (by omega)).2.1
        have := (hr i (by omega)).2.2.1
        show ((Z i).take (L i)).length ≤ _
        rw [List.length_take]
        unfold maxLen at this
        omega
      · have hw := (hr i (by omega)).2.2.2.2.1
        have hmem : ((Z i).take (L i)).getD j 0 ∈ Z i := by
          have e : ((Z i).take (L i)).getD j 0 = ((Z i).take (L i))[j] := by simp only [List.getD, List.getElem?_eq_getElem hj, Option.getD_some]
          rw [e]
          exact List.mem_of_mem_take (List.getElem_mem hj)
        exact wf_u8 (hw _ hmem)
end
end Go.Proofs.Ythkngcdfnemhaaa
