/- The program's reader of bytes: take, instr; conditions: bytes, the reader's block and the data stand in memory. -/
import Derived.Test.YtablacgmedkgjaaDoorDcn
namespace Go.Proofs.YtablacgmedkgjaaDoor
open Go.ChangeShapes Go.WideShapes Go.ChangeAt Go.RowKit
set_option linter.unusedVariables false
/-- The reader: its block r holds what is left of the N bytes of block g from p on. -/
structure Rdr (w : World) (r g : Nat) (f : Nat → Int) (N p : Nat) : Prop where
  rest : ∃ q c, w.cell? ⟨r, 0, none⟩ = some (.slice (some ⟨g, q, none⟩) (N - p) c) ∧ (p < N → q = p) ∧ N - p ≤ c
  free : w.frozen? ⟨r, 0, none⟩ = false
  data : ∀ i, i < N → w.cell? ⟨g, i, none⟩ = some (.int .u8 (f i))
  ne : r ≠ g
  hg : g < w.heap.size
theorem rdr_set {w : World} {r g N p q n c : Nat} {f : Nat → Int} {v : Value} (hD : ∀ i, i < N → w.cell? ⟨g, i, none⟩ = some (.int .u8 (f i))) (ne : r ≠ g) (hg : g < w.heap.size) (hr : w.cell? ⟨r, 0, none⟩ = some v) (fr : w.frozen? ⟨r, 0, none⟩ = false) (hn : N - p = n) (hq : p < N → q = p) (hc : n ≤ c) : Rdr (w.setCell ⟨r, 0, none⟩ (.slice (some ⟨g, q, none⟩) n c)) r g f N p := by
  refine ⟨⟨q, c, ?_, hq, by omega⟩, by simp [fr], fun i hi => ?_, ne, by simpa using hg⟩
  · rw [hn]
    exact World.cell?_setCell_same' w _ _ (by rw [hr]; rfl)
  · have hne : (⟨r, 0, none⟩ : Addr) ≠ ⟨g, i, none⟩ := by
      intro k; injection k with k1 _; exact ne k1
    rw [World.cell?_setCell_other (h := hne)]
    exact hD i hi
theorem num_fz0 (f : Nat → Int) (N : Nat) : ∀ (W p : Nat), num f p (min W (N - p)) = num (fz f N) p W
  | 0, p => by rw [Nat.zero_min]; rfl
  | W + 1, p => by
    have ih := num_fz0 f N W (p + 1)
    by_cases h : p < N
    · rw [show min (W + 1) (N - p) = min W (N - (p + 1)) + 1 by omega, num, num, ih]
      congr 1
      unfold fz
      rw [if_pos h]
    · rw [show min (W + 1) (N - p) = 0 by omega, num, num, ← ih, show min W (N - (p + 1)) = 0 by omega, num]
      unfold fz
      rw [if_neg h]
      rfl
theorem num_fz (f : Nat → Int) (N p W m : Nat) (hW : W ≤ 4) (hm : m = min W (N - p)) : num f p m = num (fz f N) p W := by
  subst hm
  exact num_fz0 f N W p
set_option maxRecDepth 100000 in
set_option maxHeartbeats 4000000 in
theorem take48 (r g N p W : Nat) (f : Nat → Int) (w : World) (R : Rdr w r g f N p) (hf : ∀ i, 0 ≤ f i ∧ f i < 256) (hN : N ≤ 1048576) (hW : W ≤ 4) : Calls Tryd.prog 53 #[.pointer (some ⟨r, 0, none⟩), .int .i64 (W : Int)] w fun e w' => e = .returned (.int .i64 (num (fz f N) p W)) ∧ Rdr w' r g f N (p + W) ∧ Only r w w' := by
  obtain ⟨q, c, hr, hq, hc⟩ := R.rest
  obtain ⟨n0, n1⟩ := num_range (fz_bt (N := N) hf) W p hW
  have fr := R.free
  obtain ⟨m, hm⟩ : ∃ m, m = min W (N - p) := ⟨_, rfl⟩
  have H70 : Hid (Calls Tryd.prog 77 #[.slice (some ⟨g, q, none⟩) m c] w fun e w' => e = .returned (.int .u32 (num (fz f N) p W)) ∧ w' = w) := by
    show Calls _ _ _ _ _
    rw [← num_fz f N p W m hW hm]
    by_cases h0 : m = 0
    · subst h0
      exact num70zero _ c w
    · have e := hq (by omega)
      subst e
      exact num70 g q m c f w (by omega) (fun i hi => R.data (q + i) (by omega)) hf
  generalize num (fz f N) p W = V at n0 n1 H70 ⊢
  have HD : Hid (∀ i, i < N → w.cell? ⟨g, i, none⟩ = some (.int .u8 (f i))) := R.data
  have HNE : Hid (r ≠ g) := R.ne
  have HGL : Hid (g < w.heap.size) := R.hg
  have HQ : Hid (p < N → q = p) := hq
  obtain ⟨n, hn⟩ : ∃ n, N - p = n := ⟨_, rfl⟩
  have HN : Hid (N - p = n) := hn
  rw [hn] at hr hc hm
  clear R hq hf hn
  have c0 : (n : Int) ≤ (c : Int) := by omega
  by_cases hWn : W ≤ n
  · obtain rfl : m = W := by omega
    have b1 : (m : Int) ≤ (n : Int) := by omega
    have b2 : (m : Int) ≤ (c : Int) := by omega
    have b0 : (0 : Int) ≤ (m : Int) := by omega
    have b3 : min (m : Int) (n : Int) = (m : Int) := by omega
    clear hm
    go_enter Tryd.func53, Tryd.ntmps53
    go_wp2_with (go_at_call 77; refine H70.out.mono ?_; rintro e w1 ⟨rfl, hw⟩; subst w1)
    all_goals
      go_ret
      have hN' := HN.out
      have hQ := HQ.out
      exact ⟨rfl, rdr_set HD.out HNE.out HGL.out hr fr (by omega) (fun h => by omega) (by omega), (Only.refl _ _).setCell 0 _⟩
  · obtain rfl : m = n := by omega
    have b1 : (m : Int) ≤ (c : Int) := by omega
    have b0 : (0 : Int) ≤ (m : Int) := by omega
    have b3 : min (W : Int) (m : Int) = (m : Int) := by omega
    have b4 : ¬ (W : Int) ≤ (m : Int) := by omega
    clear hm
    go_enter Tryd.func53, Tryd.ntmps53
    go_wp2_with (go_at_call 77; refine H70.out.mono ?_; rintro e w1 ⟨rfl, hw⟩; subst w1)
    all_goals
      go_ret
      have hN' := HN.out
      have hQ := HQ.out
      exact ⟨rfl, rdr_set HD.out HNE.out HGL.out hr fr (by omega) (fun h => by omega) (by omega), (Only.refl _ _).setCell 0 _⟩
set_option maxRecDepth 100000 in
set_option maxHeartbeats 2000000 in
theorem instr71 (o d a b c x : Int) (w : World) (x0 : 0 ≤ x) (x1 : x < 4294967296) : Calls Tryd.prog 78 #[.int .i64 o, .agg #[.int .i64 d, .int .i64 a, .int .i64 b, .int .i64 c, .int .i64 x]] w fun e w' => e = .returned (.agg #[.int .i64 o, .int .i64 d, .int .i64 a, .int .i64 b, .int .i64 c, .int .u32 x]) ∧ Below w.heap.size w w' := by
  go_enter Tryd.func78, Tryd.ntmps78
  go_wp2
  exact bodyPost_ret (v := .agg #[.int .i64 o, .int .i64 d, .int .i64 a, .int .i64 b, .int .i64 c, .int .u32 x]) (by simp [results, Tryd.results78, go_sem]) rfl ⟨rfl, by repeat (first | (with_reducible refine Below.setCell ?_ (by first | omega | (simp; try omega)) _) | (with_reducible refine Below.alloc ?_ (by first | omega | (simp; try omega)) _) | (with_reducible exact Below.refl _ _))⟩
theorem Rdr.only {w w' : World} {r g p N o : Nat} {f : Nat → Int} (h : Rdr w r g f N p) (b : Only o w w') (h1 : o ≠ r) (h2 : o ≠ g) : Rdr w' r g f N p := by
  obtain ⟨q, c, hr, hq, hc⟩ := h.rest
  have rl := World.block_lt_of_cell? _ ⟨r, 0, none⟩ hr
  refine ⟨⟨q, c, (World.cell?_of_block (w := w) (a := ⟨r, 0, none⟩) (b.block r rl (fun e => h1 e.symm))).trans hr, hq, hc⟩, (World.frozen?_of_block (w := w) (a := ⟨r, 0, none⟩) (b.block r rl (fun e => h1 e.symm))).trans h.free, fun i hi => (World.cell?_of_block (w := w) (a := ⟨g, i, none⟩) (b.block g h.hg (fun e => h2 e.symm))).trans (h.data i hi), h.ne, by have := b.size; have := h.hg; omega⟩
theorem Rdr.next {w w' : World} {r g p N : Nat} {f : Nat → Int} (h : Rdr w r g f N p) (b : Below w.heap.size w w') : Rdr w' r g f N p := by
  obtain ⟨q, c, hr, hq, hc⟩ := h.rest
  have rl := World.block_lt_of_cell? _ ⟨r, 0, none⟩ hr
  exact ⟨⟨q, c, (b.cell (p := ⟨r, 0, none⟩) rl).trans hr, hq, hc⟩, (b.frozen (p := ⟨r, 0, none⟩) rl).trans h.free, fun i hi => (b.cell (p := ⟨g, i, none⟩) h.hg).trans (h.data i hi), h.ne, by have := b.size; have := h.hg; omega⟩
theorem Rdr.lt {w : World} {r g p N : Nat} {f : Nat → Int} (h : Rdr w r g f N p) : r < w.heap.size := by
  obtain ⟨q, c, hr, _⟩ := h.rest
  exact World.block_lt_of_cell? _ ⟨r, 0, none⟩ hr
theorem ixbAll (B : Nat → Bool) (k : Nat) (hk : k < 5) (v : World) : (Instr.index 59 (.agg #[.bool (B 0), .bool (B 1), .bool (B 2), .bool (B 3), .bool (B 4)]) (.int .i64 (k : Int))).run Tryd.prog v = .ok (.bool (B k)) v := by
  rcases (by omega : k = 0 ∨ k = 1 ∨ k = 2 ∨ k = 3 ∨ k = 4) with rfl | rfl | rfl | rfl | rfl
  · exact ixb0 _ _ _ _ _ v
  · exact ixb1 _ _ _ _ _ v
  · exact ixb2 _ _ _ _ _ v
  · exact ixb3 _ _ _ _ _ v
  · exact ixb4 _ _ _ _ _ v
end Go.Proofs.YtablacgmedkgjaaDoor
