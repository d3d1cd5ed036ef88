/- Rows of values, arguments that are slices, and the cursor from which drawn inputs are read: each of its questions answers a number within its bounds, and writes into the cursor alone. -/
import Derived.Test.YtpildklndfgojaaDoorRows
import Derived.WalkKit
import Derived.ProofKit
import Derived.OpenShut
import Derived.WalkLawsBesides
import Derived.Laws.BitsAll
import Derived.Deep.QuietTactic
import Derived.Carry
import Derived.Test.YtpildklndfgojaaDoorSmall2
import Derived.Deep.RegionHeld3
import Derived.Deep.LoopGhost
namespace Go.Proofs.YtpildklndfgojaaDoor.Pl
open Go.ChangeShapes Go.WideShapes Go.ChangeAt Go.RowKit

/-- n cells of block o, from its head on: one value each; each may be written. -/
structure Own (w : World) (o n : Nat) (f : Nat → Value) : Prop where
  cell : ∀ i, i < n → w.cell? ⟨o, i, none⟩ = some (f i)
  free : ∀ i, w.frozen? ⟨o, i, none⟩ = false
  hi : o < w.heap.size
theorem Own.set {w : World} {o n : Nat} {f g : Nat → Value} (h : Own w o n f) (j : Nat) (v : Value) (hj : j < n) (hg : ∀ i, i < n → g i = if i = j then v else f i) : Own (w.setCell ⟨o, j, none⟩ v) o n g := by
  refine ⟨fun i hi => ?_, fun i => ?_, by simpa using h.hi⟩
  · rw [hg i hi]
    by_cases e : i = j
    · subst e
      rw [if_pos rfl]
      exact World.cell?_setCell_same' w _ _ (by rw [h.cell i hj]; rfl)
    · rw [if_neg e]
      have hne : (⟨o, j, none⟩ : Addr) ≠ ⟨o, i, none⟩ := by
        intro k; injection k with _ k2; exact e k2.symm
      rw [World.cell?_setCell_other (h := hne)]
      exact h.cell i hi
  · simp [h.free i]
theorem Own.mono {w : World} {o n m : Nat} {f g : Nat → Value} (h : Own w o n f) (hm : m ≤ n) (hg : ∀ i, i < m → g i = f i) : Own w o m g :=
  ⟨fun i hi => by rw [hg i hi]; exact h.cell i (by omega), h.free, h.hi⟩
/-- All blocks but one are as they were. -/
structure Only (o : Nat) (w w' : World) : Prop where
  os : w'.os = w.os
  tape : w'.tape = w.tape
  output : w'.output = w.output
  size : w.heap.size ≤ w'.heap.size
  block : ∀ k, k < w.heap.size → k ≠ o → w'.heap[k]? = w.heap[k]?
theorem Only.refl (o : Nat) (w : World) : Only o w w := ⟨rfl, rfl, rfl, Nat.le_refl _, fun _ _ _ => rfl⟩
theorem Only.trans {o : Nat} {a b c : World} (h : Only o a b) (k : Only o b c) : Only o a c :=
  ⟨k.os.trans h.os, k.tape.trans h.tape, k.output.trans h.output, Nat.le_trans h.size k.size, fun i hi ho => (k.block i (by have := h.size; omega) ho).trans (h.block i hi ho)⟩
theorem Only.setCell {o : Nat} {a w : World} (h : Only o a w) (j : Nat) (v : Value) : Only o a (w.setCell ⟨o, j, none⟩ v) :=
  h.trans ⟨rfl, rfl, rfl, by simp [World.setCell], fun k _ hk => Below.heap_setCell _ _ _ _ hk⟩
theorem Only.drewN {o : Nat} {a w : World} (h : Only o a w) (q : Nat) : Only o a (w.drewN q) := ⟨h.os, h.tape, h.output, h.size, h.block⟩
theorem Only.below {o B : Nat} {a w : World} (h : Only o a w) (hB : B ≤ o) (hs : B ≤ a.heap.size) : Below B a w := ⟨h.os, h.tape, h.output, h.size, fun k hk => h.block k (by omega) (by omega)⟩
theorem Only.ofBelow {o : Nat} {a w : World} (h : Below a.heap.size a w) : Only o a w := ⟨h.os, h.tape, h.output, h.size, fun k hk _ => h.block k hk⟩
theorem below_drewN {B : Nat} {a w : World} (h : Below B a w) (q : Nat) : Below B a (w.drewN q) := ⟨h.os, h.tape, h.output, h.size, h.block⟩
theorem drew2 (w : World) (a b : Nat) : (w.drewN a).drewN b = w.drewN (a + b) := by simp [World.drewN, Nat.add_assoc]
theorem Own.drewN {w : World} {o n : Nat} {f : Nat → Value} (h : Own w o n f) (q : Nat) : Own (w.drewN q) o n f := ⟨fun i hi => (h.cell i hi : w.cell? _ = _), fun i => h.free i, h.hi⟩
theorem Own.next {w w' : World} {o n : Nat} {f : Nat → Value} (h : Own w o n f) (hb : Below w.heap.size w w') : Own w' o n f := by
  have z := hb.size
  have zh := h.hi
  exact ⟨fun i hi => (hb.cell (p := ⟨o, i, none⟩) h.hi).trans (h.cell i hi), fun i => (hb.frozen (p := ⟨o, i, none⟩) h.hi).trans (h.free i), by omega⟩
theorem Own.but {w w' : World} {o p n : Nat} {f : Nat → Value} (h : Own w o n f) (hb : Only p w w') (hne : o ≠ p) : Own w' o n f := by
  have z := hb.size
  have zh := h.hi
  exact ⟨fun i hi => (World.cell?_of_block (w := w) (a := ⟨o, i, none⟩) (hb.block o zh hne)).trans (h.cell i hi), fun i => (World.frozen?_of_block (w := w) (a := ⟨o, i, none⟩) (hb.block o zh hne)).trans (h.free i), by omega⟩
theorem own_made {w : World} {B n t : Nat} {z : Value} {w' : World} (h : w'.ownsRow B t 1 (.slice (some ⟨w.heap.size, 0, none⟩) n n) n (madeCells #[z] (n * 1)).toList) : Own w' w.heap.size n (fun _ => z) := by
  refine ⟨fun i hi => ?_, fun i => h.frozenAt i, (h.lt _ rfl).2⟩
  rw [h.cellAt i (by omega)]
  simp [madeCells, hi, Nat.mod_one]
/-- A row behind appends: at most what is owned. -/
theorem own_owned {w : World} {B t g n cap : Nat} {xs : List Value} (h : w.ownsRow B t 1 (.slice (some ⟨g, 0, none⟩) n cap) n xs) (f : Nat → Value) (hf : ∀ i, i < n → xs[i]? = some (f i)) : Own w g n f :=
  ⟨fun i hi => by rw [h.cellAt i (by omega)]; exact hf i hi, fun i => h.frozenAt i, (h.lt _ rfl).2⟩
/-- A slice that came in: n elements at a; of an empty one nothing is asked. -/
def Arg (w : World) (a : Option Addr) (n : Nat) (f : Nat → Value) : Prop := n = 0 ∨ ∃ b off, a = some ⟨b, off, none⟩ ∧ b < w.heap.size ∧ ∀ i, i < n → w.cell? ⟨b, off + i, none⟩ = some (f i)
theorem Arg.next {w w' : World} {a : Option Addr} {n : Nat} {f : Nat → Value} (h : Arg w a n f) (hb : Below w.heap.size w w') : Arg w' a n f := by
  rcases h with h | ⟨b, off, ha, hl, hc⟩
  · exact Or.inl h
  · exact Or.inr ⟨b, off, ha, by have := hb.size; omega, fun i hi => (hb.cell (p := ⟨b, off + i, none⟩) hl).trans (hc i hi)⟩
theorem Arg.drewN {w : World} {a : Option Addr} {n : Nat} {f : Nat → Value} (h : Arg w a n f) (q : Nat) : Arg (w.drewN q) a n f := h
theorem Arg.to {w0 w : World} {a : Option Addr} {n : Nat} {f : Nat → Value} (h : Arg w0 a n f) (hb : Below w0.heap.size w0 w) : Arg w a n f := h.next hb
theorem zero_wf (k : IntKind) : (Lit.int k 0).wf = true := by cases k <;> rfl
section
variable {H : Type} {enc : TypeId × Value → H} {P : Program} {W : World} {base : Nat}
theorem view_ints {t e : TypeId} {k : IntKind} {v : Value} {d : DataW H} {p : List MemPlace} (ht : P.underlying t = some (.slice e)) (he : P.underlying e = some (.int k)) (hc : P.cellsOf e = 1)
    (hok : Value.okWide P W .any base t v) (h : DataW.Trod enc P W 0 (fun _ => true) true t v d p) (hlt : ∀ x ∈ p, x.block < W.heap.size) :
    ∃ (a : Option Addr) (len cap : Nat) (f : Nat → Int), v = .slice a len cap ∧ len ≤ 9223372036854775807 ∧ Arg W a len (fun i => .int k (f i)) ∧ ∀ i, (Lit.int k (f i)).wf = true := by
  obtain ⟨a0, len, cap, rfl⟩ := okWide_slice ht hok
  obtain ⟨fuel, hf⟩ := h
  rcases open_ints ht he hc hf with ⟨hcs, hx⟩ | ⟨a, len', cap', zs, hcs, _, hl, hm, hz, hx, hcell, hwz⟩
  · simp [Value.cells] at hcs
    obtain ⟨rfl, rfl, rfl⟩ := hcs
    exact ⟨_, 0, 0, fun _ => 0, rfl, by omega, Or.inl rfl, fun _ => zero_wf k⟩
  · simp [Value.cells] at hcs
    obtain ⟨rfl, rfl, rfl⟩ := hcs
    simp only [Prod.mk.injEq] at hx
    obtain ⟨rfl, rfl⟩ := hx
    simp only [if_true] at hz
    refine ⟨_, len, cap, fun i => zs.getD i 0, rfl, by unfold maxLen at hm; omega, ?_, fun i => ?_⟩
    · by_cases hl0 : len = 0
      · exact Or.inl hl0
      · obtain ⟨b, off, spot⟩ := a
        have hspot : spot = none := by simpa [Addr.add] using World.cell?_spot (hcell 0 (by omega))
        subst hspot
        have hbW : b < W.heap.size := hlt (.cell b off) (MemPlace.mem_row.2 ⟨0, by omega, by simp⟩)
        exact Or.inr ⟨b, off, rfl, hbW, fun j hj => by rw [← add_plain]; exact hcell j (by omega)⟩
    · show (Lit.int k (zs.getD i 0)).wf = true
      by_cases hi : i < zs.length
      · have e : zs.getD i 0 = zs[i] := by simp [List.getD, hi]
        rw [e]
        exact hwz _ (List.getElem_mem hi)
      · have e : zs.getD i 0 = 0 := by simp [List.getD, List.getElem?_eq_none (Nat.le_of_not_lt hi)]
        rw [e]
        exact zero_wf k
end
end Go.Proofs.YtpildklndfgojaaDoor.Pl
namespace Go.Proofs.YtpildklndfgojaaDoor
open Go.ChangeShapes Go.WideShapes Go.ChangeAt Go.RowKit
open Pl (Only Own Arg)
set_option linter.unusedVariables false
/-- A cursor at block b, its place at most k. -/
def Cur (b : Nat) (k : Int) (w : World) : Prop := ∃ (s : Option Addr) (n c : Nat) (f : Nat → Int) (p d : Int),
  w.heap[b]? = some (.cells #[.slice s n c, .int .i64 p, .int .u64 d] 53 (0, 0)) ∧ n ≤ 1048576 ∧ 0 ≤ p ∧ p ≤ k ∧ 0 ≤ d ∧ d < 18446744073709551616 ∧
  (n = 0 ∨ ∃ o off, s = some ⟨o, off, none⟩ ∧ o < b ∧ ∀ i, i < n → w.cell? ⟨o, off + i, none⟩ = some (.int .u8 (f i))) ∧ ∀ i, 0 ≤ f i ∧ f i < 256
theorem Cur.lt {b : Nat} {k : Int} {w : World} (h : Cur b k w) : b < w.heap.size := by
  obtain ⟨s, n, c, f, p, d, hb, _⟩ := h
  exact lt_of_block hb
theorem Cur.mono {b : Nat} {k k' : Int} {w : World} (h : Cur b k w) (hk : k ≤ k') : Cur b k' w := by
  obtain ⟨s, n, c, f, p, d, hb, h1, h2, h3, h4⟩ := h
  exact ⟨s, n, c, f, p, d, hb, h1, h2, by omega, h4⟩
theorem Cur.next {b : Nat} {k : Int} {w w' : World} (h : Cur b k w) (hb : Below w.heap.size w w') : Cur b k w' := by
  have hl := h.lt
  obtain ⟨s, n, c, f, p, d, h0, h1, h2, h3, h4, h5, h6, h7⟩ := h
  refine ⟨s, n, c, f, p, d, (hb.block b hl).trans h0, h1, h2, h3, h4, h5, ?_, h7⟩
  rcases h6 with h | ⟨o, off, hs, ho, hc⟩
  · exact Or.inl h
  · exact Or.inr ⟨o, off, hs, ho, fun i hi => (hb.cell (p := ⟨o, off + i, none⟩) (by show o < _; omega)).trans (hc i hi)⟩
theorem Cur.set {b : Nat} {k : Int} {w w' : World} {s : Option Addr} {n c : Nat} {f : Nat → Int} {p d : Int} (ho : Only b w w') (hl : b < w.heap.size)
    (h : w'.heap[b]? = some (.cells #[.slice s n c, .int .i64 p, .int .u64 d] 53 (0, 0))) (h1 : n ≤ 1048576) (h2 : 0 ≤ p) (h3 : p ≤ k) (h4 : 0 ≤ d) (h5 : d < 18446744073709551616)
    (h6 : n = 0 ∨ ∃ o off, s = some ⟨o, off, none⟩ ∧ o < b ∧ ∀ i, i < n → w.cell? ⟨o, off + i, none⟩ = some (.int .u8 (f i))) (h7 : ∀ i, 0 ≤ f i ∧ f i < 256) : Cur b k w' := by
  refine ⟨s, n, c, f, p, d, h, h1, h2, h3, h4, h5, ?_, h7⟩
  rcases h6 with h | ⟨o, off, hs, hob, hc⟩
  · exact Or.inl h
  · refine Or.inr ⟨o, off, hs, hob, fun i hi => ?_⟩
    rw [← hc i hi]
    have := ho.block o (by omega) (by omega)
    simp only [World.cell?, this]
theorem set12 {w : World} {b : Nat} {x y z y' z' : Value} {t : TypeId} (h : w.heap[b]? = some (.cells #[x, y, z] t (0, 0))) :
    ((w.setCell ⟨b, 1, none⟩ y').setCell ⟨b, 2, none⟩ z').heap[b]? = some (.cells #[x, y', z'] t (0, 0)) := by
  have hb : b < w.heap.size := lt_of_block h
  have e : w.heap[b] = .cells #[x, y, z] t (0, 0) := by
    have := Array.getElem?_eq_getElem hb
    rw [this] at h; exact Option.some.inj h
  simp [World.setCell, Array.getElem?_modify, h]
theorem drew_heap (w : World) (q : Nat) : (w.drewN q).heap = w.heap := rfl
theorem bit_and255 (x : Int) (h0 : 0 ≤ x) (h1 : x < 18446744073709551616) : bits .and .u64 x 255 = x % 256 := by go_bits2
set_option maxHeartbeats 2000000 in
theorem next82 (b : Nat) (k : Int) (w : World) (hk : k ≤ 1000000) (hc : Cur b k w) :
    Calls Tryd.prog 82 #[.pointer (some ⟨b, 0, none⟩)] w fun e w' => ∃ x : Int, 0 ≤ x ∧ x < 256 ∧ e = .returned (.int .i64 x) ∧ Cur b (k + 1) w' ∧ Only b w w' := by
  have hl := hc.lt
  obtain ⟨s, n, c, f, p, d, hb, h1, h2, h3, h4, h5, h6, h7⟩ := hc
  have hb' := hb
  obtain ⟨⟨x0, x1, x2⟩, y0, y1, y2⟩ := blk3 hb
  by_cases hp : p < n
  · have hn : ¬ n = 0 := by omega
    obtain ⟨o, off, rfl, hob, hcell⟩ : ∃ o off, s = some ⟨o, off, none⟩ ∧ o < b ∧ ∀ i, i < n → w.cell? ⟨o, off + i, none⟩ = some (.int .u8 (f i)) := by
      rcases h6 with h | h
      · exact absurd h hn
      · exact h
    obtain ⟨q, rfl⟩ := Int.eq_ofNat_of_zero_le h2
    have hq : q < n := by omega
    have hcq := hcell q hq
    have fb := h7 q
    obtain ⟨y, hy⟩ : ∃ y, f q = y := ⟨_, rfl⟩
    rw [hy] at hcq fb
    have HC : Hid ((n = 0 ∨ ∃ o' off', some (⟨o, off, none⟩ : Addr) = some ⟨o', off', none⟩ ∧ o' < b ∧ ∀ i, i < n → w.cell? ⟨o', off' + i, none⟩ = some (.int .u8 (f i))) ∧ (∀ i, 0 ≤ f i ∧ f i < 256)) := ⟨Or.inr ⟨o, off, rfl, hob, hcell⟩, h7⟩
    have hp1 : (q : Int) + 1 ≤ (n : Int) := by omega
    have wy : IntKind.u64.wrap y = y := by rw [IntKind.wrap_u64]; exact Int.emod_eq_of_lt fb.1 (by omega)
    have ob : o ≠ b := by omega
    have yb8 : IntKind.i64.wrap y = y := by rw [IntKind.wrap_i64]; omega
    obtain ⟨d', hd'⟩ : ∃ d', IntKind.u64.wrap (IntKind.u64.wrap (IntKind.u64.wrap (d * 6364136223846793005) + y) + 1442695040888963407) = d' := ⟨_, rfl⟩
    have d0 : 0 ≤ d' ∧ d' < 18446744073709551616 := by rw [← hd', IntKind.wrap_u64]; omega
    clear h6 h7 hcell hy
    go_enter Tryd.func82, Tryd.ntmps82
    go_wp2
    go_quiet (fail)
    go_wp2
    go_quiet (fail)
    go_wp2
    go_quiet (fail)
    go_wp2
    go_ret
    refine ⟨y, ?_, ?_, rfl, Cur.set (w := w) (((((Only.refl b w).drewN _).setCell 1 _).setCell 2 _).drewN _) hl (set12 (w := w.drewN _) hb') h1 (by omega) (by omega) d0.1 d0.2 HC.out.1 HC.out.2, ((((Only.refl b w).drewN _).setCell 1 _).setCell 2 _).drewN _⟩ <;> omega
  · have HC : Hid ((n = 0 ∨ ∃ o' off', s = some ⟨o', off', none⟩ ∧ o' < b ∧ ∀ i, i < n → w.cell? ⟨o', off' + i, none⟩ = some (.int .u8 (f i))) ∧ (∀ i, 0 ≤ f i ∧ f i < 256)) := ⟨h6, h7⟩
    have hp0 : (n : Int) ≤ p := by omega
    have hp1 : ¬ p + 1 ≤ (n : Int) := by omega
    obtain ⟨d', hd'⟩ : ∃ d', IntKind.u64.wrap (IntKind.u64.wrap (IntKind.u64.wrap (d * 6364136223846793005)) + 1442695040888963407) = d' := ⟨_, rfl⟩
    have d0 : 0 ≤ d' ∧ d' < 18446744073709551616 := by rw [← hd', IntKind.wrap_u64]; omega
    have b255 := bit_and255 (d' / 1099511627776) (by omega) (by omega)
    have hz : wrap64 (d' / 1099511627776 % 256) = d' / 1099511627776 % 256 := by first | (simp [wrap64]; omega) | (rw [show wrap64 (d' / 1099511627776 % 256) = IntKind.i64.wrap (d' / 1099511627776 % 256) from rfl, IntKind.wrap_i64]; omega)
    clear h6 h7
    go_enter Tryd.func82, Tryd.ntmps82
    go_wp2
    go_quiet (fail)
    go_wp2
    go_quiet (fail)
    go_wp2
    go_ret
    refine ⟨d' / 1099511627776 % 256, by omega, by omega, rfl, Cur.set (w := w) (((((Only.refl b w).drewN _).setCell 1 _).setCell 2 _).drewN _) hl (set12 (w := w.drewN _) hb') h1 (by omega) (by omega) d0.1 d0.2 HC.out.1 HC.out.2, ((((Only.refl b w).drewN _).setCell 1 _).setCell 2 _).drewN _⟩
end Go.Proofs.YtpildklndfgojaaDoor
namespace Go.Proofs.YtpildklndfgojaaDoor
open Go.ChangeShapes Go.WideShapes Go.ChangeAt Go.RowKit
open Pl (Only Own Arg)
set_option linter.unusedVariables false
theorem tmod_bd (x n : Int) (x0 : 0 ≤ x) (n0 : 1 < n) : 0 ≤ x.tmod n ∧ x.tmod n < n := by
  rw [Int.tmod_eq_emod_of_nonneg x0]
  exact ⟨Int.emod_nonneg _ (by omega), Int.emod_lt_of_pos _ (by omega)⟩
theorem wrap_bd (y : Int) : -9223372036854775808 ≤ IntKind.i64.wrap y ∧ IntKind.i64.wrap y ≤ 9223372036854775807 := by rw [IntKind.wrap_i64]; omega
theorem wrap64_bd (y : Int) : -9223372036854775808 ≤ wrap64 y ∧ wrap64 y ≤ 9223372036854775807 := by first | exact wrap_bd y | (unfold wrap64; omega) | (have := wrap_bd y; rw [IntKind.wrap_i64] at this; simp only [wrap64]; omega)
theorem bits_i64 (op : BinOp) (x y : Int) : -9223372036854775808 ≤ bits op .i64 x y ∧ bits op .i64 x y ≤ 9223372036854775807 := by unfold bits; exact wrap_bd _
theorem ediv_bd (x : Int) (n : Nat) (h0 : -9223372036854775808 ≤ x) (h1 : x ≤ 9223372036854775807) : -9223372036854775808 ≤ x / 2 ^ n ∧ x / 2 ^ n ≤ 9223372036854775807 := by
  have p : (0 : Int) < 2 ^ n := Int.pow_pos (by decide)
  refine ⟨?_, ?_⟩
  · rw [Int.le_ediv_iff_mul_le p]
    have q : (1 : Int) ≤ 2 ^ n := p
    omega
  · by_cases hx : 0 ≤ x
    · have := Int.ediv_le_self (2 ^ n) hx; omega
    · have : x / 2 ^ n < 0 := Int.ediv_neg_of_neg_of_pos (by omega) p
      omega
set_option maxHeartbeats 1000000 in
theorem pick32 (b : Nat) (k n : Int) (w : World) (hk : k ≤ 900000) (hc : Cur b k w) (n0 : 1 < n) (n1 : n ≤ 65536) :
    Calls Tryd.prog 32 #[.pointer (some ⟨b, 0, none⟩), .int .i64 n] w fun e w' => ∃ x : Int, 0 ≤ x ∧ x < n ∧ e = .returned (.int .i64 x) ∧ Cur b (k + 2) w' ∧ Only b w w' := by
  have HC : Hid (Cur b k w) := hc
  have nz : ¬ n = 0 := by omega
  have n0' : ¬ n ≤ 1 := by omega
  by_cases hn : 200 < n
  · go_enter Tryd.func32, Tryd.ntmps32
    go_wp2_with (first | (go_at_call 82; (with_reducible show Calls Tryd.prog 82 _ w _); refine (next82 b k w (by omega) HC.out).mono ?_; rintro e w1 ⟨x, x0, x1, rfl, c1, o1⟩) | (go_at_call 82; refine (next82 b (k + 1) w1 (by omega) c1).mono ?_; rintro e w2 ⟨y, y0, y1, rfl, c2, o2⟩))
    have tb := tmod_bd (x * 256 + y) n (by omega) n0
    have eb := And.intro (Int.emod_nonneg (x * 256 + y) nz) (Int.emod_lt_of_pos (x * 256 + y) (by omega : 0 < n))
    go_ret
    refine ⟨_, ?_, ?_, rfl, c2.mono (by omega), o1.trans o2⟩ <;> first | omega | exact tb.1 | exact tb.2 | exact eb.1 | exact eb.2
  · have hn' : ¬ 200 < n := hn
    go_enter Tryd.func32, Tryd.ntmps32
    go_wp2_with (go_at_call 82; (with_reducible show Calls Tryd.prog 82 _ w _); refine (next82 b k w (by omega) HC.out).mono ?_; rintro e w1 ⟨x, x0, x1, rfl, c1, o1⟩)
    have tb := tmod_bd x n (by omega) n0
    have eb := And.intro (Int.emod_nonneg x nz) (Int.emod_lt_of_pos x (by omega : 0 < n))
    go_ret
    refine ⟨_, ?_, ?_, rfl, c1.mono (by omega), o1⟩ <;> first | omega | exact tb.1 | exact tb.2 | exact eb.1 | exact eb.2
theorem one30 (b : Nat) (k n : Int) (w : World) (hk : k ≤ 900000) (hc : Cur b k w) (n0 : 1 < n) (n1 : n ≤ 65536) :
    Calls Tryd.prog 30 #[.pointer (some ⟨b, 0, none⟩), .int .i64 n] w fun e w' => ∃ t : Bool, e = .returned (.bool t) ∧ Cur b (k + 2) w' ∧ Only b w w' := by
  have HC : Hid (Cur b k w) := hc
  go_enter Tryd.func30, Tryd.ntmps30
  go_wp2_with (go_at_call 32; refine (pick32 b k n w hk HC.out n0 n1).mono ?_; rintro e w1 ⟨x, x0, x1, rfl, c1, o1⟩)
  go_ret
  exact ⟨_, rfl, c1, o1⟩
theorem among31 (b : Nat) (k : Int) (w : World) (hk : k ≤ 900000) (hc : Cur b k w) (o m c : Nat) (f : Nat → Int) (m0 : 1 < m) (m1 : m ≤ 65536) (hob : o ≠ b) (ho : o < w.heap.size)
    (hcell : ∀ i, i < m → w.cell? ⟨o, i, none⟩ = some (.int .i64 (f i))) :
    Calls Tryd.prog 31 #[.pointer (some ⟨b, 0, none⟩), .slice (some ⟨o, 0, none⟩) m c] w fun e w' => ∃ i : Nat, i < m ∧ e = .returned (.int .i64 (f i)) ∧ Cur b (k + 2) w' ∧ Only b w w' := by
  have HC : Hid (Cur b k w) := hc
  have HF : Hid (∀ i, i < m → w.cell? ⟨o, i, none⟩ = some (.int .i64 (f i))) := hcell
  clear hcell
  have mi : (m : Int) ≤ 65536 := by omega
  have mi0 : 1 < (m : Int) := by omega
  go_enter Tryd.func31, Tryd.ntmps31
  go_wp2_with (go_at_call 32; refine (pick32 b k m w hk HC.out mi0 mi).mono ?_; rintro e w1 ⟨x, x0, x1, rfl, c1, o1⟩; obtain ⟨j, rfl⟩ := Int.eq_ofNat_of_zero_le x0; (have hj : j < m := by omega); (have hcj : w1.cell? ⟨o, j, none⟩ = some (.int .i64 (f j)) := by rw [← HF.out j hj]; have := o1.block o ho hob; simp only [World.cell?, this]))
  go_ret
  exact ⟨j, hj, rfl, c1, o1⟩
set_option maxHeartbeats 1000000 in
theorem wide89 (b : Nat) (k : Int) (w : World) (hk : k ≤ 900000) (hc : Cur b k w) :
    Calls Tryd.prog 89 #[.pointer (some ⟨b, 0, none⟩)] w fun e w' => ∃ x : Int, -9223372036854775808 ≤ x ∧ x ≤ 9223372036854775807 ∧ e = .returned (.int .i64 x) ∧ Cur b (k + 8) w' ∧ Only b w w' := by
  have HC : Hid (Cur b k w) := hc
  clear hc
  go_enter Tryd.func89, Tryd.ntmps89
  go_wp2
  go_loopw [3, 4] (fun n i wr => ∃ (x : Int) (j : Nat), n = .int .i64 x ∧ -9223372036854775808 ≤ x ∧ x ≤ 9223372036854775807 ∧ i = .int .i64 j ∧ j ≤ 8 ∧ Cur b (k + j) wr ∧ Only b w wr) (fun _ i _ => 8 - (intOf i).toNat)
  case atStart => exact ⟨0, 0, rfl, by decide, by decide, rfl, by decide, HC.out.mono (by omega), Only.refl _ _⟩
  case round =>
    obtain ⟨x, j, rfl, x0, x1, rfl, hj, cj, oj⟩ := hrel
    have CJ : Hid (Cur b (k + j) wr) := cj
    clear cj
    by_cases hj8 : j < 8
    · have i1 : (j : Int) < 8 := by omega
      have sb : -9223372036854775808 ≤ IntKind.i64.wrap (x * 256) ∧ IntKind.i64.wrap (x * 256) ≤ 9223372036854775807 := by rw [IntKind.wrap_i64]; omega
      obtain ⟨s, hs⟩ : ∃ s, IntKind.i64.wrap (x * 256) = s := ⟨_, rfl⟩
      rw [hs] at sb
      go_wp2_with (go_at_call 82; refine (next82 b (k + j) wr (by omega) CJ.out).mono ?_; rintro e w1 ⟨y, y0, y1, rfl, c1, o1⟩)
      go_roundw
      case rel => exact ⟨_, j + 1, rfl, (bits_i64 _ _ _).1, (bits_i64 _ _ _).2, by go_num, by omega, c1.mono (by omega), oj.trans o1⟩
      case measure => simp [intOf]; omega
    · have hj' : j = 8 := by omega
      subst hj'
      go_wp2
      go_ret
      exact ⟨x, x0, x1, rfl, CJ.out, oj⟩
theorem pickC {b : Nat} {k n : Int} {w : World} (hc : Cur b k w) (hk : k ≤ 900000) (n0 : 1 < n) (n1 : n ≤ 65536) :
    Calls Tryd.prog 32 #[.pointer (some ⟨b, 0, none⟩), .int .i64 n] w fun e w' => ∃ x : Int, 0 ≤ x ∧ x < n ∧ e = .returned (.int .i64 x) ∧ Cur b (k + 2) w' ∧ Only b w w' := pick32 b k n w hk hc n0 n1
theorem oneC {b : Nat} {k n : Int} {w : World} (hc : Cur b k w) (hk : k ≤ 900000) (n0 : 1 < n) (n1 : n ≤ 65536) :
    Calls Tryd.prog 30 #[.pointer (some ⟨b, 0, none⟩), .int .i64 n] w fun e w' => ∃ t : Bool, e = .returned (.bool t) ∧ Cur b (k + 2) w' ∧ Only b w w' := one30 b k n w hk hc n0 n1
theorem wideC {b : Nat} {k : Int} {w : World} (hc : Cur b k w) (hk : k ≤ 900000) :
    Calls Tryd.prog 89 #[.pointer (some ⟨b, 0, none⟩)] w fun e w' => ∃ x : Int, -9223372036854775808 ≤ x ∧ x ≤ 9223372036854775807 ∧ e = .returned (.int .i64 x) ∧ Cur b (k + 8) w' ∧ Only b w w' := wide89 b k w hk hc
set_option maxHeartbeats 2000000 in
theorem sized91 (b : Nat) (k : Int) (w : World) (hk : k ≤ 900000 - 20) (hc : Cur b k w) :
    Calls Tryd.prog 91 #[.pointer (some ⟨b, 0, none⟩)] w fun e w' => ∃ x : Int, -9223372036854775808 ≤ x ∧ x ≤ 9223372036854775807 ∧ e = .returned (.int .i64 x) ∧ Cur b (k + 16) w' ∧ Only b w w' := by
  have o0 := Only.refl b w
  go_enter Tryd.func91, Tryd.ntmps91
  go_wp2_with (first | (go_at_call 32; refine (pickC (by assumption) (by omega) (by decide) (by decide)).mono ?_; rintro e w1 ⟨x, x0, x1, rfl, c1, oc⟩; (have oo : Only b w _ := Only.trans (by assumption) oc); clear oc) | (go_at_call 89; refine (wideC (by assumption) (by omega)).mono ?_; rintro e w1 ⟨y, y0, y1, rfl, c1, oc⟩; (have oo : Only b w _ := Only.trans (by assumption) oc); clear oc) | (go_at_call 30; refine (oneC (by assumption) (by omega) (by decide) (by decide)).mono ?_; rintro e w1 ⟨t, rfl, c1, oc⟩; (have oo : Only b w _ := Only.trans (by assumption) oc); clear oc))
  all_goals go_ret
  all_goals refine ⟨_, ?_, ?_, rfl, Cur.mono (by assumption) (by omega), by assumption⟩
  all_goals first | omega | exact (wrap64_bd _).1 | exact (wrap64_bd _).2 | exact (wrap_bd _).1 | exact (wrap_bd _).2 | exact (ediv_bd _ _ (by omega) (by omega)).1 | exact (ediv_bd _ _ (by omega) (by omega)).2
end Go.Proofs.YtpildklndfgojaaDoor
