/- Rows of blocks: as arguments, as the laws copy them, counted, copied, compared. -/
import Derived.Test.YtngmaeinehfimaaLe
import Derived.Deep.Slices
import Derived.Deep.Cut
import Derived.Deep.DeepCutAuto
import Derived.Deep.CutBlock
import Derived.BigQuiet
namespace Go.Proofs.Ytngmaeinehfimaa
open Go.ChangeShapes Go.WideShapes Go.ChangeAt Go.RowKit
set_option linter.unusedVariables false
abbrev TB := List Int × List Int
/-- The block at a place of a list. -/
def tb (L : List TB) (i : Nat) : TB := L.getD i ([], [])
theorem tb_mem {L : List TB} {i : Nat} (h : i < L.length) : tb L i ∈ L := by simp [tb, List.getD, h]
/-- A list of blocks wherever it lies. -/
def BRow (w : World) (v : Value) (L : List TB) : Prop := ∃ ad c, v = .slice ad L.length c ∧ ∀ i, i < L.length → ∃ g o u x, ad = some ⟨g, o, none⟩ ∧ w.cell? ⟨g, o + i * 2, none⟩ = some u ∧ w.cell? ⟨g, o + i * 2 + 1, none⟩ = some x ∧ ARow w u (tb L i).1 ∧ ARow w x (tb L i).2
theorem BRow.next {w w' : World} {v : Value} {L : List TB} (h : BRow w v L) (b : Below w.heap.size w w') : BRow w' v L := by
  obtain ⟨ad, c, e, hx⟩ := h
  refine ⟨ad, c, e, fun i hi => ?_⟩
  obtain ⟨g, o, u, x, e1, e2, e3, e4, e5⟩ := hx i hi
  exact ⟨g, o, u, x, e1, cell_nx e2 b, cell_nx e3 b, e4.next b, e5.next b⟩
section
variable {H : Type} {enc : TypeId × Value → H} {P : Program} {W : World} {base : Nat}
theorem viewB {t e r : TypeId} {f0 f1 : Field} {v : Value} {d : DataW H} {p : List MemPlace} (ht : P.underlying t = some (.slice e)) (he : P.underlying e = some (.struct #[f0, f1])) (ce : P.cellsOf e = 2)
    (o0 : f0.offset = 0) (o1 : f1.offset = 1) (c0 : P.cellsOf f0.type = 1) (c1 : P.cellsOf f1.type = 1) (u0 : P.underlying f0.type = some (.slice r)) (u1 : P.underlying f1.type = some (.slice r)) (ur : P.underlying r = some (.int .i64)) (cr : P.cellsOf r = 1)
    (hok : Value.okWide P W .any base t v) (h : DataW.Trod enc P W 0 (fun _ => true) true t v d p) :
    ∃ L : List TB, BRow W v L ∧ L.length ≤ 9223372036854775807 ∧ ∀ i, i < L.length → (tb L i).1.length ≤ 9223372036854775807 ∧ (tb L i).2.length ≤ 9223372036854775807 := by
  obtain ⟨a0, len, cap, rfl⟩ := okWide_slice ht hok
  obtain ⟨fuel, hf⟩ := h
  rcases Go.Deep.open_slice ht hf with ⟨hcs, hx⟩ | ⟨a, len', cap', m, n, D, Pl, hcs, _, hl, hm, hmm, hx, hel⟩
  · simp [Value.cells] at hcs
    obtain ⟨rfl, rfl, rfl⟩ := hcs
    exact ⟨[], ⟨_, _, rfl, fun i hi => absurd hi (Nat.not_lt_zero _)⟩, by simp, fun i hi => absurd hi (Nat.not_lt_zero _)⟩
  · simp [Value.cells] at hcs
    obtain ⟨rfl, rfl, rfl⟩ := hcs
    simp only [if_true] at hmm
    have each : ∀ i, i < len → ∃ q : TB × Value × Value, W.cell? (a.add (i * 2)) = some q.2.1 ∧ W.cell? (a.add (i * 2 + 1)) = some q.2.2 ∧ ARow W q.2.1 q.1.1 ∧ ARow W q.2.2 q.1.2 ∧ q.1.1.length ≤ 9223372036854775807 ∧ q.1.2.length ≤ 9223372036854775807 := by
      intro i hi
      obtain ⟨cs', h1, h2⟩ := hel i (by omega)
      rw [ce] at h1
      obtain ⟨_, hlen, hcell⟩ := World.cells?_some h1
      obtain ⟨xs, k, hk, hxy, _, hxl, hf⟩ := DataW.trod_struct he h2
      match xs, hxl, cs', hlen with
      | [y0, y1], _, [v0, v1], _ =>
        have g0 := hf 0 f0 rfl
        have g1 := hf 1 f1 rfl
        simp [o0, o1, c0, c1] at g0 g1
        have e0 := hcell 0 (by omega)
        have e1 := hcell 1 (by omega)
        rw [Go.Deep.add_add] at e0 e1
        obtain ⟨L, a1, a2⟩ := rowOf u0 ur cr g0
        obtain ⟨M, b1, b2⟩ := rowOf u1 ur cr g1
        exact ⟨((L, M), v0, v1), by simpa using e0, by simpa using e1, a1, b1, a2, b2⟩
    obtain ⟨q, hq⟩ := Go.Deep.choose_lt each
    have hg : ∀ i, i < len → tb ((List.range len).map (fun i => (q i).1)) i = (q i).1 := fun i hi => by simp [tb, List.getD, hi]
    refine ⟨(List.range len).map (fun i => (q i).1), ⟨some a, cap, by simp, fun i hi => ?_⟩, by simp; unfold maxLen at hm; omega, fun i hi => ?_⟩
    · have hi : i < len := by simpa using hi
      obtain ⟨b, off, spot⟩ := a
      have hspot : spot = none := by simpa [Addr.add] using World.cell?_spot (hq 0 (by omega)).1
      subst hspot
      obtain ⟨h0, h1, h2, h3, _⟩ := hq i hi
      rw [add_plain] at h0 h1
      rw [hg i hi]
      exact ⟨b, off, _, _, rfl, h0, h1, h2, h3⟩
    · have hi : i < len := by simpa using hi
      rw [hg i hi]
      exact (hq i hi).2.2.2.2
end
/-- What is left behind a list of blocks: less than nothing, or all of it is short enough. -/
def SzB (L : List TB) (n : Nat) (x : Int) : Prop := x < 0 ∨ 0 ≤ x ∧ x ≤ 1048576 ∧ (n : Int) ≤ 1048576 ∧ ∀ i, i < n → (tb L i).1.length ≤ 1048576 ∧ (tb L i).2.length ≤ 1048576
set_option maxRecDepth 100000 in
set_option maxHeartbeats 4000000 in
theorem szBS (v : Value) (L : List TB) (w : World) (U : BRow w v L) (hl : L.length ≤ 9223372036854775807) (hx : ∀ i, i < L.length → (tb L i).1.length ≤ 9223372036854775807 ∧ (tb L i).2.length ≤ 9223372036854775807) :
    Calls Try.prog 23 #[v, .int .i64 1048576] w fun r w' => (∃ x : Int, r = .returned (.int .i64 x) ∧ SzB L L.length x) ∧ Below w.heap.size w w' := by
  obtain ⟨ad, c, rfl, hrow⟩ := U
  have HE : Hid (∀ i, i < L.length → ∃ g o u x, ad = some ⟨g, o, none⟩ ∧ w.cell? ⟨g, o + i * 2, none⟩ = some u ∧ w.cell? ⟨g, o + i * 2 + 1, none⟩ = some x ∧ ∀ (w' : World) (z : Int), Below w.heap.size w w' → 0 ≤ z → z ≤ 1048576 → Calls Try.prog 11 #[.agg #[u, x], .int .i64 z] w' fun r w'' => (∃ y : Int, r = .returned (.int .i64 y) ∧ (y < 0 ∨ 0 ≤ y ∧ y ≤ 1048576 ∧ (tb L i).1.length ≤ 1048576 ∧ (tb L i).2.length ≤ 1048576)) ∧ Below w'.heap.size w' w'') := fun i hi => by
    obtain ⟨g, o, u, x, e1, e2, e3, e4, e5⟩ := hrow i hi
    refine ⟨g, o, u, x, e1, e2, e3, fun w' z b z0 z1 => (szB u x _ _ w' (e4.next b) (e5.next b) (hx i hi).1 (hx i hi).2 z z0 z1).mono fun r w2 ⟨⟨y, h1, h2⟩, h3⟩ => ⟨⟨y, h1, ?_⟩, h3⟩⟩
    rcases h2 with h2 | ⟨h2, h4, h5⟩
    · exact Or.inl h2
    · exact Or.inr ⟨h2, by omega, by omega, by omega⟩
  have HQ : Hid (∀ k, (∀ i, i < k → (tb L i).1.length ≤ 1048576 ∧ (tb L i).2.length ≤ 1048576) → (tb L k).1.length ≤ 1048576 → (tb L k).2.length ≤ 1048576 → ∀ i, i < k + 1 → (tb L i).1.length ≤ 1048576 ∧ (tb L i).2.length ≤ 1048576) := fun k h h1 h2 i hi => by
    by_cases e : i = k
    · subst e; exact ⟨h1, h2⟩
    · exact h i (by omega)
  generalize (fun i => (tb L i).1.length) = A at *
  obtain ⟨n, hn⟩ : ∃ n, L.length = n := ⟨_, rfl⟩
  rw [hn] at HE hl ⊢
  clear hn hrow hx
  by_cases h1 : (1048576 : Int) < n
  · have y0 : (1048576 : Int) - n < 0 := by omega
    clear HE HQ
    go_enter Try.func23, Try.ntmps23
    go_wp2
    go_ret
    exact ⟨⟨_, rfl, Or.inl (by decide)⟩, Below.refl _ _⟩
  have y0 : ¬ (1048576 : Int) - n < 0 := by omega
  have HN : Hid ((n : Int) ≤ 1048576) := by show (n : Int) ≤ 1048576; omega
  go_enter Try.func23, Try.ntmps23
  go_wp2
  go_loopw [1, 5] (fun l i wr => ∃ (k : Nat) (y : Int), k ≤ n ∧ i = .int .i64 k ∧ l = .int .i64 y ∧ 0 ≤ y ∧ y ≤ 1048576 ∧ Hid (∀ i, i < k → (tb L i).1.length ≤ 1048576 ∧ (tb L i).2.length ≤ 1048576) ∧ Below w.heap.size w wr) (fun _ i _ => n - (intOf i).toNat)
  case atStart => exact ⟨0, 1048576 - n, Nat.zero_le _, rfl, by first | rfl | (congr 1; omega) | go_num, by omega, by omega, fun i hi => by omega, Below.refl _ _⟩
  case round =>
    obtain ⟨k, y, hk, rfl, rfl, hy0, hy1, HK, HB⟩ := hrel
    by_cases hkn : k < n
    · have i1 : (k : Int) < (n : Int) := by omega
      have i0 : (0 : Int) ≤ (k : Int) := by omega
      obtain ⟨g, o, u, x, rfl, hc0, hc1, hC⟩ := HE.out k hkn
      have c0 := cell_nx hc0 HB
      have c1 := cell_nx hc1 HB
      have hcall := hC wr y HB hy0 hy1
      have HN2 := Hid.mk (HQ.out k HK.out)
      clear hc0 hc1 hC HE HQ HK
      go_upto_region 6 with (go_at_call 11; refine hcall.mono ?_; rintro e w2 ⟨⟨q, rfl, hq⟩, B2⟩)
      · go_ret
        exact ⟨⟨_, rfl, Or.inl (by decide)⟩, HB.trans (B2.mono HB.size)⟩
      · rename_i hq0
        have hq1 : 0 ≤ q ∧ q ≤ 1048576 ∧ (tb L k).1.length ≤ 1048576 ∧ (tb L k).2.length ≤ 1048576 := by rcases hq with h | h; omega; exact h
        go_wp2
        go_roundw
        case rel => exact ⟨k + 1, q, by omega, by go_num, rfl, hq1.1, hq1.2.1, HN2.out hq1.2.2.1 hq1.2.2.2, HB.trans (B2.mono HB.size)⟩
        case measure => simp [intOf]; omega
    · obtain rfl : n = k := by omega
      have i1 : ¬ (n : Int) < (n : Int) := by omega
      have HZ : SzB L n y := Or.inr ⟨hy0, hy1, HN.out, HK.out⟩
      go_wp2
      go_ret
      exact ⟨⟨y, rfl, HZ⟩, HB⟩
end Go.Proofs.Ytngmaeinehfimaa
