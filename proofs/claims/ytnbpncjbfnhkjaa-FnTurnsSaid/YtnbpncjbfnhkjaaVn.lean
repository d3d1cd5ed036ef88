/- The cursor from which drawn inputs are read: each of its questions answers a number within its bounds, and writes into the cursor alone. -/
import Derived.Test.YtnbpncjbfnhkjaaVm
import Derived.Deep.QuietTactic
import Derived.Laws.BitsAll
import Derived.WalkLawsBesides
import Derived.Deep.RegionHeld3
import Derived.Deep.LoopGhost
namespace Go.Proofs.Ytnbpncjbfnhkjaa
open Go.ChangeShapes Go.WideShapes Go.ChangeAt Go.RowKit
set_option linter.unusedVariables false
theorem lt_of_block {w : World} {b : Nat} {o : Obj} (h : w.heap[b]? = some o) : b < w.heap.size := (Array.getElem?_eq_some_iff.1 h).1
/-- A block of three cells that nothing froze: each cell as it stands, each may be written. -/
theorem blk3 {w : World} {b : Nat} {x y z : Value} {t : TypeId} (h : w.heap[b]? = some (.cells #[x, y, z] t (0, 0))) :
    (w.cell? ⟨b, 0, none⟩ = some x ∧ w.cell? ⟨b, 1, none⟩ = some y ∧ w.cell? ⟨b, 2, none⟩ = some z) ∧ (w.frozen? ⟨b, 0, none⟩ = false ∧ w.frozen? ⟨b, 1, none⟩ = false ∧ w.frozen? ⟨b, 2, none⟩ = false) := by
  refine ⟨⟨?_, ?_, ?_⟩, ?_, ?_, ?_⟩ <;> simp [World.cell?, World.frozen?, h]
/-- A cursor at block b, its place at most k. -/
def Cur (b : Nat) (k : Int) (w : World) : Prop := ∃ (s : Option Addr) (n c : Nat) (f : Nat → Int) (p d : Int),
  w.heap[b]? = some (.cells #[.slice s n c, .int .i64 p, .int .u64 d] 82 (0, 0)) ∧ n ≤ 1048576 ∧ 0 ≤ p ∧ p ≤ k ∧ 0 ≤ d ∧ d < 18446744073709551616 ∧
  (n = 0 ∨ ∃ o off, s = some ⟨o, off, none⟩ ∧ o < b ∧ ∀ i, i < n → w.cell? ⟨o, off + i, none⟩ = some (.int .u8 (f i))) ∧ ∀ i, 0 ≤ f i ∧ f i < 256
theorem Cur.lt {b : Nat} {k : Int} {w : World} (h : Cur b k w) : b < w.heap.size := by
  obtain ⟨s, n, c, f, p, d, hb, _⟩ := h
  exact lt_of_block hb
theorem Cur.mono {b : Nat} {k k' : Int} {w : World} (h : Cur b k w) (hk : k ≤ k') : Cur b k' w := by
  obtain ⟨s, n, c, f, p, d, hb, h1, h2, h3, h4⟩ := h
  exact ⟨s, n, c, f, p, d, hb, h1, h2, by omega, h4⟩
theorem Cur.next {b : Nat} {k : Int} {w w' : World} (h : Cur b k w) (hb : Below w.heap.size w w') : Cur b k w' := by
  have hl := h.lt
  obtain ⟨s, n, c, f, p, d, h0, h1, h2, h3, h4, h5, h6, h7⟩ := h
  refine ⟨s, n, c, f, p, d, (hb.block b hl).trans h0, h1, h2, h3, h4, h5, ?_, h7⟩
  rcases h6 with h | ⟨o, off, hs, ho, hc⟩
  · exact Or.inl h
  · exact Or.inr ⟨o, off, hs, ho, fun i hi => (hb.cell (p := ⟨o, off + i, none⟩) (by show o < _; omega)).trans (hc i hi)⟩
theorem Cur.set {b : Nat} {k : Int} {w w' : World} {s : Option Addr} {n c : Nat} {f : Nat → Int} {p d : Int} (ho : Only b w w') (hl : b < w.heap.size)
    (h : w'.heap[b]? = some (.cells #[.slice s n c, .int .i64 p, .int .u64 d] 82 (0, 0))) (h1 : n ≤ 1048576) (h2 : 0 ≤ p) (h3 : p ≤ k) (h4 : 0 ≤ d) (h5 : d < 18446744073709551616)
    (h6 : n = 0 ∨ ∃ o off, s = some ⟨o, off, none⟩ ∧ o < b ∧ ∀ i, i < n → w.cell? ⟨o, off + i, none⟩ = some (.int .u8 (f i))) (h7 : ∀ i, 0 ≤ f i ∧ f i < 256) : Cur b k w' := by
  refine ⟨s, n, c, f, p, d, h, h1, h2, h3, h4, h5, ?_, h7⟩
  rcases h6 with h | ⟨o, off, hs, hob, hc⟩
  · exact Or.inl h
  · refine Or.inr ⟨o, off, hs, hob, fun i hi => ?_⟩
    rw [← hc i hi]
    have := ho.block o (by omega) (by omega)
    simp only [World.cell?, this]
theorem set12 {w : World} {b : Nat} {x y z y' z' : Value} {t : TypeId} (h : w.heap[b]? = some (.cells #[x, y, z] t (0, 0))) :
    ((w.setCell ⟨b, 1, none⟩ y').setCell ⟨b, 2, none⟩ z').heap[b]? = some (.cells #[x, y', z'] t (0, 0)) := by
  have hb : b < w.heap.size := lt_of_block h
  have e : w.heap[b] = .cells #[x, y, z] t (0, 0) := by
    have := Array.getElem?_eq_getElem hb
    rw [this] at h; exact Option.some.inj h
  simp [World.setCell, Array.getElem?_modify, h]
theorem drew_heap (w : World) (q : Nat) : (w.drewN q).heap = w.heap := rfl
theorem bit_and255 (x : Int) (h0 : 0 ≤ x) (h1 : x < 18446744073709551616) : bits .and .u64 x 255 = x % 256 := by go_bits2
set_option maxHeartbeats 2000000 in
theorem next82 (b : Nat) (k : Int) (w : World) (hk : k ≤ 1000000) (hc : Cur b k w) :
    Calls Try.prog 63 #[.pointer (some ⟨b, 0, none⟩)] w fun e w' => ∃ x : Int, 0 ≤ x ∧ x < 256 ∧ e = .returned (.int .i64 x) ∧ Cur b (k + 1) w' ∧ Only b w w' := by
  have hl := hc.lt
  obtain ⟨s, n, c, f, p, d, hb, h1, h2, h3, h4, h5, h6, h7⟩ := hc
  have hb' := hb
  obtain ⟨⟨x0, x1, x2⟩, y0, y1, y2⟩ := blk3 hb
  by_cases hp : p < n
  · have hn : ¬ n = 0 := by omega
    obtain ⟨o, off, rfl, hob, hcell⟩ : ∃ o off, s = some ⟨o, off, none⟩ ∧ o < b ∧ ∀ i, i < n → w.cell? ⟨o, off + i, none⟩ = some (.int .u8 (f i)) := by
      rcases h6 with h | h
      · exact absurd h hn
      · exact h
    obtain ⟨q, rfl⟩ := Int.eq_ofNat_of_zero_le h2
    have hq : q < n := by omega
    have hcq := hcell q hq
    have fb := h7 q
    obtain ⟨y, hy⟩ : ∃ y, f q = y := ⟨_, rfl⟩
    rw [hy] at hcq fb
    have HC : Hid ((n = 0 ∨ ∃ o' off', some (⟨o, off, none⟩ : Addr) = some ⟨o', off', none⟩ ∧ o' < b ∧ ∀ i, i < n → w.cell? ⟨o', off' + i, none⟩ = some (.int .u8 (f i))) ∧ (∀ i, 0 ≤ f i ∧ f i < 256)) := ⟨Or.inr ⟨o, off, rfl, hob, hcell⟩, h7⟩
    have hp1 : (q : Int) + 1 ≤ (n : Int) := by omega
    have wy : IntKind.u64.wrap y = y := by rw [IntKind.wrap_u64]; exact Int.emod_eq_of_lt fb.1 (by omega)
    have ob : o ≠ b := by omega
    have yb8 : IntKind.i64.wrap y = y := by rw [IntKind.wrap_i64]; omega
    obtain ⟨d', hd'⟩ : ∃ d', IntKind.u64.wrap (IntKind.u64.wrap (IntKind.u64.wrap (d * 6364136223846793005) + y) + 1442695040888963407) = d' := ⟨_, rfl⟩
    have d0 : 0 ≤ d' ∧ d' < 18446744073709551616 := by rw [← hd', IntKind.wrap_u64]; omega
    clear h6 h7 hcell hy
    go_enter Try.func63, Try.ntmps63
    go_wp2
    go_quiet (fail)
    go_wp2
    go_quiet (fail)
    go_wp2
    go_quiet (fail)
    go_wp2
    go_ret
    refine ⟨y, ?_, ?_, rfl, Cur.set (w := w) (((((Only.refl b w).drewN _).setCell 1 _).setCell 2 _).drewN _) hl (set12 (w := w.drewN _) hb') h1 (by omega) (by omega) d0.1 d0.2 HC.out.1 HC.out.2, ((((Only.refl b w).drewN _).setCell 1 _).setCell 2 _).drewN _⟩ <;> omega
  · have HC : Hid ((n = 0 ∨ ∃ o' off', s = some ⟨o', off', none⟩ ∧ o' < b ∧ ∀ i, i < n → w.cell? ⟨o', off' + i, none⟩ = some (.int .u8 (f i))) ∧ (∀ i, 0 ≤ f i ∧ f i < 256)) := ⟨h6, h7⟩
    have hp0 : (n : Int) ≤ p := by omega
    have hp1 : ¬ p + 1 ≤ (n : Int) := by omega
    obtain ⟨d', hd'⟩ : ∃ d', IntKind.u64.wrap (IntKind.u64.wrap (IntKind.u64.wrap (d * 6364136223846793005)) + 1442695040888963407) = d' := ⟨_, rfl⟩
    have d0 : 0 ≤ d' ∧ d' < 18446744073709551616 := by rw [← hd', IntKind.wrap_u64]; omega
    have b255 := bit_and255 (d' / 1099511627776) (by omega) (by omega)
    have hz : wrap64 (d' / 1099511627776 % 256) = d' / 1099511627776 % 256 := by first | (simp [wrap64]; omega) | (rw [show wrap64 (d' / 1099511627776 % 256) = IntKind.i64.wrap (d' / 1099511627776 % 256) from rfl, IntKind.wrap_i64]; omega)
    clear h6 h7
    go_enter Try.func63, Try.ntmps63
    go_wp2
    go_quiet (fail)
    go_wp2
    go_quiet (fail)
    go_wp2
    go_ret
    refine ⟨d' / 1099511627776 % 256, by omega, by omega, rfl, Cur.set (w := w) (((((Only.refl b w).drewN _).setCell 1 _).setCell 2 _).drewN _) hl (set12 (w := w.drewN _) hb') h1 (by omega) (by omega) d0.1 d0.2 HC.out.1 HC.out.2, ((((Only.refl b w).drewN _).setCell 1 _).setCell 2 _).drewN _⟩
theorem tmod_bd (x n : Int) (x0 : 0 ≤ x) (n0 : 1 < n) : 0 ≤ x.tmod n ∧ x.tmod n < n := by
  rw [Int.tmod_eq_emod_of_nonneg x0]
  exact ⟨Int.emod_nonneg _ (by omega), Int.emod_lt_of_pos _ (by omega)⟩
set_option maxHeartbeats 1000000 in
theorem pick32 (b : Nat) (k n : Int) (w : World) (hk : k ≤ 900000) (hc : Cur b k w) (n0 : 1 < n) (n1 : n ≤ 65536) :
    Calls Try.prog 56 #[.pointer (some ⟨b, 0, none⟩), .int .i64 n] w fun e w' => ∃ x : Int, 0 ≤ x ∧ x < n ∧ e = .returned (.int .i64 x) ∧ Cur b (k + 2) w' ∧ Only b w w' := by
  have HC : Hid (Cur b k w) := hc
  have nz : ¬ n = 0 := by omega
  have n0' : ¬ n ≤ 1 := by omega
  by_cases hn : 200 < n
  · go_enter Try.func56, Try.ntmps56
    go_wp2_with (first | (go_at_call 63; (with_reducible show Calls Try.prog 63 _ w _); refine (next82 b k w (by omega) HC.out).mono ?_; rintro e w1 ⟨x, x0, x1, rfl, c1, o1⟩) | (go_at_call 63; refine (next82 b (k + 1) w1 (by omega) c1).mono ?_; rintro e w2 ⟨y, y0, y1, rfl, c2, o2⟩))
    have tb := tmod_bd (x * 256 + y) n (by omega) n0
    have eb := And.intro (Int.emod_nonneg (x * 256 + y) nz) (Int.emod_lt_of_pos (x * 256 + y) (by omega : 0 < n))
    go_ret
    refine ⟨_, ?_, ?_, rfl, c2.mono (by omega), o1.trans o2⟩ <;> first | omega | exact tb.1 | exact tb.2 | exact eb.1 | exact eb.2
  · have hn' : ¬ 200 < n := hn
    go_enter Try.func56, Try.ntmps56
    go_wp2_with (go_at_call 63; (with_reducible show Calls Try.prog 63 _ w _); refine (next82 b k w (by omega) HC.out).mono ?_; rintro e w1 ⟨x, x0, x1, rfl, c1, o1⟩)
    have tb := tmod_bd x n (by omega) n0
    have eb := And.intro (Int.emod_nonneg x nz) (Int.emod_lt_of_pos x (by omega : 0 < n))
    go_ret
    refine ⟨_, ?_, ?_, rfl, c1.mono (by omega), o1⟩ <;> first | omega | exact tb.1 | exact tb.2 | exact eb.1 | exact eb.2
theorem one30 (b : Nat) (k n : Int) (w : World) (hk : k ≤ 900000) (hc : Cur b k w) (n0 : 1 < n) (n1 : n ≤ 65536) :
    Calls Try.prog 57 #[.pointer (some ⟨b, 0, none⟩), .int .i64 n] w fun e w' => ∃ t : Bool, e = .returned (.bool t) ∧ Cur b (k + 2) w' ∧ Only b w w' := by
  have HC : Hid (Cur b k w) := hc
  go_enter Try.func57, Try.ntmps57
  go_wp2_with (go_at_call 56; refine (pick32 b k n w hk HC.out n0 n1).mono ?_; rintro e w1 ⟨x, x0, x1, rfl, c1, o1⟩)
  go_ret
  exact ⟨_, rfl, c1, o1⟩
theorem among31 (b : Nat) (k : Int) (w : World) (hk : k ≤ 900000) (hc : Cur b k w) (o m c : Nat) (f : Nat → Int) (m0 : 1 < m) (m1 : m ≤ 65536) (hob : o ≠ b) (ho : o < w.heap.size)
    (hcell : ∀ i, i < m → w.cell? ⟨o, i, none⟩ = some (.int .i64 (f i))) :
    Calls Try.prog 64 #[.pointer (some ⟨b, 0, none⟩), .slice (some ⟨o, 0, none⟩) m c] w fun e w' => ∃ i : Nat, i < m ∧ e = .returned (.int .i64 (f i)) ∧ Cur b (k + 2) w' ∧ Only b w w' := by
  have HC : Hid (Cur b k w) := hc
  have HF : Hid (∀ i, i < m → w.cell? ⟨o, i, none⟩ = some (.int .i64 (f i))) := hcell
  clear hcell
  have mi : (m : Int) ≤ 65536 := by omega
  have mi0 : 1 < (m : Int) := by omega
  go_enter Try.func64, Try.ntmps64
  go_wp2_with (go_at_call 56; refine (pick32 b k m w hk HC.out mi0 mi).mono ?_; rintro e w1 ⟨x, x0, x1, rfl, c1, o1⟩; obtain ⟨j, rfl⟩ := Int.eq_ofNat_of_zero_le x0; (have hj : j < m := by omega); (have hcj : w1.cell? ⟨o, j, none⟩ = some (.int .i64 (f j)) := by rw [← HF.out j hj]; have := o1.block o ho hob; simp only [World.cell?, this]))
  go_ret
  exact ⟨j, hj, rfl, c1, o1⟩
theorem amongL {b : Nat} {k : Int} {w : World} (hc : Cur b k w) (hk : k ≤ 900000) (l : List Int) (c : Nat) (m0 : 1 < l.length) (m1 : l.length ≤ 65536) : Calls Try.prog 64 #[.pointer (some ⟨b, 0, none⟩), .slice (some ⟨w.heap.size, 0, none⟩) l.length c] (w.alloc (.cells (l.map (Value.int .i64)).toArray 3)) fun e w' => ∃ x : Int, x ∈ l ∧ e = .returned (.int .i64 x) ∧ Cur b (k + 2) w' ∧ Only b (w.alloc (.cells (l.map (Value.int .i64)).toArray 3)) w' := by
  have hl := hc.lt
  refine (among31 b k (w.alloc (.cells (l.map (Value.int .i64)).toArray 3)) hk (hc.next alloc_b) w.heap.size l.length c (fun i => l.getD i 0) m0 m1 (by omega) (by rw [World.size_alloc]; omega) (fun i hi => ?_)).mono ?_
  · simp [List.getD, hi]
  · rintro e w' ⟨i, hi, rfl, c1, o1⟩
    refine ⟨_, ?_, rfl, c1, o1⟩
    show l.getD i 0 ∈ l
    rw [List.getD_eq_getElem?_getD, List.getElem?_eq_getElem hi]
    exact List.getElem_mem hi
theorem Cur.grown {b : Nat} {k : Int} {w w' : World} {r : Option Nat} (h : Cur b k w) (g : w.grownBy w' r) (hr : ∀ q, r = some q → b < q) : Cur b k w' := by
  have hl := h.lt
  obtain ⟨s, n, c, f, p, d, h0, h1, h2, h3, h4, h5, h6, h7⟩ := h
  refine ⟨s, n, c, f, p, d, (g.block b hl (fun e => by have := hr b e.symm; omega)).trans h0, h1, h2, h3, h4, h5, ?_, h7⟩
  rcases h6 with h | ⟨o, off, hs, ho, hc⟩
  · exact Or.inl h
  · exact Or.inr ⟨o, off, hs, ho, fun i hi => (World.cell?_of_block (w := w) (a := ⟨o, off + i, none⟩) (g.block o (by omega) (fun e => by have := hr o e.symm; omega))).trans (hc i hi)⟩
theorem grown_only {o : Nat} {w w' : World} (h : Only o w w') : w.grownBy w' (some o) := ⟨h.os, h.tape, h.output, h.size, fun k hk hne => h.block k hk (fun e => hne (by rw [e]))⟩
theorem Only.alloc {b : Nat} {w v : World} (h : Only b w v) (o : Obj) : Only b w (v.alloc o) := h.trans (Only.ofBelow alloc_b)
theorem Only.new {b x : Nat} {w v : World} (h : Only b w v) (hx : w.heap.size ≤ x) (j : Nat) (u : Value) : Only b w (v.setCell ⟨x, j, none⟩ u) :=
  ⟨h.os, h.tape, h.output, by have := h.size; simpa using this, fun k hk hne => (Below.heap_setCell v ⟨x, j, none⟩ u k (by show k ≠ x; omega)).trans (h.block k hk hne)⟩
theorem C5.only {w w' : World} {b o : Nat} {v0 v1 v2 v3 v4 : Value} (h : C5 w b v0 v1 v2 v3 v4) (k : Only o w w') (hne : b ≠ o) : C5 w' b v0 v1 v2 v3 v4 := h.block (k.block b h.hi hne) k.size
theorem Cur.far {b x : Nat} {k : Int} {w : World} (h : Cur b k w) (hx : b < x) (j : Nat) (u : Value) : Cur b k (w.setCell ⟨x, j, none⟩ u) := h.grown (grown_only ((Only.refl x w).setCell j u)) (fun q e => by have e2 := Option.some.inj e; omega)
end Go.Proofs.Ytnbpncjbfnhkjaa
