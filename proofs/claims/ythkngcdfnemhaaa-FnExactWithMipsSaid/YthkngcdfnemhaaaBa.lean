/- Bytes that are appended, rows of them that grow, portions; a level told as a list of bytes. -/
import Derived.Test.YthkngcdfnemhaaaAs
import Derived.Maps.AppendAt
import Derived.Lib.AppendZeros
import Derived.Lib.OwnKind
namespace Go.Proofs.Ythkngcdfnemhaaa
open Go.ChangeShapes Go.WideShapes Go.ChangeAt Go.RowKit
set_option linter.unusedVariables false
theorem run_append_none {P : Program} (w : World) (t ty e : TypeId) (i : TypeInfo) (ht : P.underlying t = some (.slice e)) (hi : P.info? e = some i) (a b : Option Addr) (n cap c : Nat) (h : n ≤ cap) : (Builtin.append_ #[t, t] ty #[.slice a n cap, .slice b 0 c]).run P w = .ok (.slice a n cap) w := by
  cases a <;> cases b <;> simp [Builtin.append_, run_underlying ht, sizeOf, typeInfo, hi, Builtin.lenOf, h, Builtin.firstCells, storeCells, loadCells, loadCellsFrom]
theorem grown_refl (w : World) (r : Option Nat) : w.grownBy w r := ⟨rfl, rfl, rfl, Nat.le_refl _, fun _ _ _ => rfl⟩
theorem kne {w : World} {B B' e e' s s' n n' : Nat} {v v' : Value} {xs xs' : List Value} (h : w.ownsRow B e s v n xs) (h' : w.ownsRow B' e' s' v' n' xs') (ne : e ≠ e') : ∀ q, v.ownBlock = some q → v'.ownBlock ≠ some q := fun q hq e2 => by
  obtain ⟨c, f, h1⟩ := Lib.ownsRow_kind h q hq
  obtain ⟨c', f', h2⟩ := Lib.ownsRow_kind h' q e2
  rw [h1] at h2
  injection h2 with h2
  injection h2 with _ h3
  exact ne h3
theorem only_grown {w w' : World} {p : Nat} (b : Only p w w') : w.grownBy w' (some p) := ⟨b.os, b.tape, b.output, b.size, fun k hk hn => b.block k hk (fun e => hn (by rw [e]))⟩
theorem C4.low {w w' : World} {b B : Nat} {v0 v1 v2 v3 : Value} (h : C4 w b v0 v1 v2 v3) (k : Below B w w') (hb : b < B) : C4 w' b v0 v1 v2 v3 := h.block (k.block b hb) k.size
theorem C4.far {w : World} {b : Nat} {v0 v1 v2 v3 : Value} (h : C4 w b v0 v1 v2 v3) (g j : Nat) (x : Value) (hg : b ≠ g) : C4 (w.setCell ⟨g, j, none⟩ x) b v0 v1 v2 v3 := h.block (Below.heap_setCell w ⟨g, j, none⟩ x b hg) (by simp)
def bl (L : List Int) : List Value := L.map (Value.int .u8)
theorem bl_app (a b : List Int) : bl (a ++ b) = bl a ++ bl b := List.map_append
theorem bl_len (L : List Int) : (bl L).length = L.length * 1 := by simp [bl]
theorem bl_one (L : List Int) : ∀ u ∈ bl L, u.oneCell' = true := by
  intro u hu
  simp only [bl, List.mem_map] at hu
  obtain ⟨x, _, rfl⟩ := hu
  rfl
theorem info8 : (Try.prog.info? 5).map (fun i => (i.zero, i.size, i.bytes)) = some (some (.int .u8 0), 1, 1) := by kernel_rfl
/-- A row of bytes of one's own, from block B on. -/
def Y8 (B : Nat) (w : World) (v : Value) (L : List Int) : Prop := w.ownsRow B 5 1 v L.length (bl L) ∧ B ≤ w.heap.size
theorem Y8.nil (B : Nat) (w : World) (h : B ≤ w.heap.size) : Y8 B w (.slice none 0 0) [] := ⟨World.ownsRow_nil _ _ _ _, h⟩
theorem Y8.lt {B : Nat} {w : World} {v : Value} {L : List Int} (h : Y8 B w v L) : ∀ g, v.ownBlock = some g → B ≤ g ∧ g < w.heap.size := fun g hg => h.1.lt g hg
theorem Y8.grown {B : Nat} {w w' : World} {v : Value} {L : List Int} {r : Option Nat} (h : Y8 B w v L) (b : w.grownBy w' r) (hne : v.ownBlock = none ∨ v.ownBlock ≠ r) : Y8 B w' v L := ⟨h.1.kept (row := r) b hne, Nat.le_trans h.2 b.size⟩
theorem Y8.next {B : Nat} {w w' : World} {v : Value} {L : List Int} (h : Y8 B w v L) (b : Below w.heap.size w w') : Y8 B w' v L := h.grown (r := none) ⟨b.os, b.tape, b.output, b.size, fun i hi _ => b.block i hi⟩ (by cases hv : v.ownBlock <;> simp)
theorem Y8.alloc {B : Nat} {w : World} {v : Value} {L : List Int} (h : Y8 B w v L) (o : Obj) : Y8 B (w.alloc o) v L := h.next alloc_b
theorem Y8.is {B : Nat} {w : World} {v : Value} {L : List Int} (h : Y8 B w v L) : ∃ a c, v = .slice a L.length c := by
  rcases h.1.2 with ⟨rfl, h0⟩ | ⟨g, cap, cur, rfl, _⟩
  · exact ⟨_, 0, by rw [h0]⟩
  · exact ⟨_, _, rfl⟩
theorem Y8.brow {B : Nat} {w : World} {v : Value} {L : List Int} (h : Y8 B w v L) : BRow w v L := by
  have h1 := h.1
  rcases h1.2 with ⟨rfl, h0⟩ | ⟨g, cap, cur, rfl, _, _, hc, _⟩
  · exact ⟨none, 0, by rw [h0], by omega, fun i hi => absurd hi (by omega)⟩
  · refine ⟨_, cap, rfl, hc, fun i hi => ⟨g, 0, rfl, ?_⟩⟩
    rw [Nat.zero_add, h1.cellAt i (by omega)]
    simp [bl, List.getD, hi]
theorem Y8.low {B C : Nat} {w : World} {v : Value} {L : List Int} (h : Y8 C w v L) (hB : B ≤ C) : Y8 B w v L := by
  refine ⟨⟨h.1.1, ?_⟩, Nat.le_trans hB h.2⟩
  rcases h.1.2 with h1 | ⟨g, cap, cur, h1, h2, h3⟩
  · exact Or.inl h1
  · exact Or.inr ⟨g, cap, cur, h1, Nat.le_trans hB h2, h3⟩
theorem run_append_y8 {w : World} {ty : TypeId} {B C : Nat} {v X : Value} {M L : List Int} (hv : Y8 B w v M) (hX : BOwn C w X L) (hl : M.length + L.length ≤ 100000) (h0 : 0 < L.length) :
    ∃ g cap w', (Builtin.append_ #[28, 28] ty #[v, X]).run Try.prog w = .ok (.slice (some ⟨g, 0, none⟩) (M ++ L).length cap) w' ∧ Y8 B w' (.slice (some ⟨g, 0, none⟩) (M ++ L).length cap) (M ++ L) ∧ w.grownBy w' v.ownBlock := by
  obtain ⟨i0, hi, hz0, hz1, hz2⟩ := info_parts info8
  rcases hX with ⟨rfl, _⟩ | ⟨p, rfl, _, O⟩
  · simp at h0
  obtain ⟨v', w', h1, h2, h3, -, -⟩ := run_append_own_at (P := Try.prog) w B 28 ty 5 i0 (.int .u8 0) 1 1 Try.underlying28 hi hz0 hz1 hz2 rfl (by decide) v M.length (bl M) hv.1 ⟨p, 0, none⟩ L.length L.length (bl L) (bl_len L)
    (by
      intro j u hj
      have hjl : j < L.length := by
        have := (List.getElem?_eq_some_iff.1 hj).1
        simpa [bl] using this
      have e := O.cell j hjl
      have : u = .int .u8 (L.getD j 0) := by
        simp [bl, hjl] at hj
        simp [List.getD, hjl, ← hj]
      subst this
      have e3 : (⟨p, 0, none⟩ : Addr).add j = ⟨p, j, none⟩ := by simp [Addr.add]; intro h; exact h.symm
      rw [e3]
      exact e) (bl_one L) (by unfold maxLen; omega) (by omega) hv.2
  have e : M.length + L.length = (M ++ L).length := by simp
  rw [e] at h2
  obtain ⟨g, cap, rfl⟩ : ∃ g cap, v' = .slice (some ⟨g, 0, none⟩) (M ++ L).length cap := by
    rcases h2.2 with ⟨_, h0'⟩ | ⟨g, cap, cur, h0', _⟩
    · rw [← e] at h0'; omega
    · exact ⟨g, cap, h0'⟩
  refine ⟨g, cap, w', h1, ⟨?_, Nat.le_trans hv.2 h3.size⟩, h3⟩
  rw [bl_app]
  exact h2
/-- A row of rows of one's own. -/
def T8 (B : Nat) (w : World) (v : Value) (us : List Value) : Prop := w.ownsRow B 28 1 v us.length us ∧ B ≤ w.heap.size
theorem infoY : (Try.prog.info? 28).map (fun i => (i.zero, i.size, i.bytes)) = some (some (.slice none 0 0), 1, 24) := by kernel_rfl
theorem T8.nil (B : Nat) (w : World) (h : B ≤ w.heap.size) : T8 B w (.slice none 0 0) [] := ⟨World.ownsRow_nil _ _ _ _, h⟩
theorem T8.lt {B : Nat} {w : World} {v : Value} {L : List Value} (h : T8 B w v L) : ∀ g, v.ownBlock = some g → B ≤ g ∧ g < w.heap.size := fun g hg => h.1.lt g hg
theorem T8.grown {B : Nat} {w w' : World} {v : Value} {L : List Value} {r : Option Nat} (h : T8 B w v L) (b : w.grownBy w' r) (hne : v.ownBlock = none ∨ v.ownBlock ≠ r) : T8 B w' v L := ⟨h.1.kept (row := r) b hne, Nat.le_trans h.2 b.size⟩
theorem T8.next {B : Nat} {w w' : World} {v : Value} {L : List Value} (h : T8 B w v L) (b : Below w.heap.size w w') : T8 B w' v L := h.grown (r := none) ⟨b.os, b.tape, b.output, b.size, fun i hi _ => b.block i hi⟩ (by cases hv : v.ownBlock <;> simp)
theorem run_append_t8 {w : World} {ty : TypeId} {B p c : Nat} {v u : Value} {L : List Value} (R : T8 B w v L) (hu : w.cell? ⟨p, 0, none⟩ = some u) (h1 : u.oneCell' = true) (hl : L.length < 1000) :
    ∃ g cap w', (Builtin.append_ #[38, 38] ty #[v, .slice (some ⟨p, 0, none⟩) 1 c]).run Try.prog w = .ok (.slice (some ⟨g, 0, none⟩) (L.length + 1) cap) w' ∧ T8 B w' (.slice (some ⟨g, 0, none⟩) (L.length + 1) cap) (L ++ [u]) ∧ w.grownBy w' v.ownBlock ∧ (v.ownBlock = some g ∨ g = w.heap.size) := by
  obtain ⟨i0, hi, hz0, hz1, hz2⟩ := info_parts infoY
  obtain ⟨v', w', h1', h2, h3, -, h5⟩ := run_append_own_at (P := Try.prog) w B 38 ty 28 i0 (.slice none 0 0) 1 24 Try.underlying38 hi hz0 hz1 hz2 rfl (by decide) v L.length L R.1 ⟨p, 0, none⟩ 1 c [u] rfl
    (by
      intro j x hj
      match j, hj with
      | 0, hj => simp at hj; subst hj; simpa [Addr.add] using hu)
    (by intro x hx; simp at hx; subst hx; exact h1) (by unfold maxLen; omega) (by omega) R.2
  obtain ⟨g, cap, rfl⟩ : ∃ g cap, v' = .slice (some ⟨g, 0, none⟩) (L.length + 1) cap := by
    rcases h2.2 with ⟨_, h0⟩ | ⟨g, cap, cur, h0, _⟩
    · omega
    · exact ⟨g, cap, h0⟩
  refine ⟨g, cap, w', h1', ⟨?_, Nat.le_trans R.2 h3.size⟩, h3, ?_⟩
  rotate_left
  · rcases h5 with h5 | h5
    · exact Or.inl h5.symm
    · right
      have : some g = some w.heap.size := h5
      injection this
  rw [List.length_append]
  exact h2
theorem T8.rows {B : Nat} {w : World} {v : Value} {L : List Value} {F : Nat → List Int} (h : T8 B w v L) (hr : ∀ i, i < L.length → BRow w (L.getD i (.slice none 0 0)) (F i)) : BRows w v L.length F := by
  have h1 := h.1
  rcases h1.2 with ⟨rfl, h0⟩ | ⟨g, cap, cur, rfl, _⟩
  · exact ⟨none, 0, by rw [h0], fun i hi => absurd hi (by omega)⟩
  · refine ⟨_, cap, rfl, fun i hi => ⟨g, 0, L.getD i (.slice none 0 0), rfl, ?_, hr i hi⟩⟩
    rw [Nat.zero_add, h1.cellAt i (by omega)]
    simp [List.getD, hi]
def nilS : Value := .slice none 0 0
/-- Rows of bytes of one's own, each above the one ahead. -/
structure Lv (B : Nat) (w : World) (us : List Value) (F : Nat → List Int) : Prop where
  r : ∀ i, i < us.length → Y8 B w (us.getD i (.slice none 0 0)) (F i)
  m : ∀ i j g g', i < j → j < us.length → (us.getD i (.slice none 0 0)).ownBlock = some g → (us.getD j (.slice none 0 0)).ownBlock = some g' → g < g'
theorem Lv.grown {B : Nat} {w w' : World} {us : List Value} {F : Nat → List Int} {q : Option Nat} (h : Lv B w us F) (b : w.grownBy w' q) (hne : ∀ i, i < us.length → (us.getD i (.slice none 0 0)).ownBlock = none ∨ (us.getD i (.slice none 0 0)).ownBlock ≠ q) : Lv B w' us F := ⟨fun i hi => (h.r i hi).grown b (hne i hi), h.m⟩
theorem Lv.next {B : Nat} {w w' : World} {us : List Value} {F : Nat → List Int} (h : Lv B w us F) (b : Below w.heap.size w w') : Lv B w' us F := ⟨fun i hi => (h.r i hi).next b, h.m⟩
theorem Lv.snoc {B C : Nat} {w : World} {us : List Value} {u : Value} {F : Nat → List Int} (h : Lv B w us F) (hu : Y8 C w u (F us.length)) (hc : ∀ i g, i < us.length → (us.getD i (.slice none 0 0)).ownBlock = some g → g < C) (hB : B ≤ C) : Lv B w (us ++ [u]) F := by
  have e1 : ∀ i, i < us.length → (us ++ [u]).getD i (.slice none 0 0) = us.getD i (.slice none 0 0) := fun i hi => by simp [List.getD, List.getElem?_append_left hi]
  have e2 : (us ++ [u]).getD us.length (.slice none 0 0) = u := by simp [List.getD]
  refine ⟨fun i hi => ?_, fun i j g g' hij hj h1 h2 => ?_⟩
  · by_cases e : i = us.length
    · subst e; rw [e2]; exact hu.low hB
    · have hi2 : i < us.length := by simp at hi; omega
      rw [e1 i hi2]; exact h.r i hi2
  · have hi2 : i < us.length := by simp at hj; omega
    rw [e1 i hi2] at h1
    by_cases e : j = us.length
    · subst e
      rw [e2] at h2
      have h3 := hc i g hi2 h1
      have h4 := (hu.lt g' h2).1
      omega
    · have hj2 : j < us.length := by simp at hj; omega
      rw [e1 j hj2] at h2
      exact h.m i j g g' hij hj2 h1 h2
theorem Lv.nil (B : Nat) (w : World) (F : Nat → List Int) : Lv B w [] F := ⟨fun i hi => absurd hi (by simp), fun i j g g' hij hj => absurd hj (by simp)⟩
theorem Lv.rows {B : Nat} {w : World} {us : List Value} {F : Nat → List Int} (h : Lv B w us F) : ∀ i, i < us.length → BRow w (us.getD i (.slice none 0 0)) (F i) := fun i hi => (h.r i hi).brow
theorem Lv.lt {B : Nat} {w : World} {us : List Value} {F : Nat → List Int} (h : Lv B w us F) : ∀ i g, i < us.length → (us.getD i (.slice none 0 0)).ownBlock = some g → B ≤ g ∧ g < w.heap.size := fun i g hi hg => (h.r i hi).lt g hg
def one (_ : Nat) : Int := 1
def c5 (C : Nat → Col) : Nat → List Value
  | 0 => []
  | k + 1 => c5 C k ++ [.int .i64 (C k).r, .int .i64 (C k).g, .int .i64 (C k).b, .int .i64 (C k).a, .int .i64 1]
theorem c5_len (C : Nat → Col) : ∀ k, (c5 C k).length = k * 5
  | 0 => rfl
  | k + 1 => by rw [c5, List.length_append, c5_len C k]; simp only [List.length_cons, List.length_nil]; omega
/-- The first k of a function's colors as portions of one each. -/
def PR (B : Nat) (w : World) (v : Value) (C : Nat → Col) (k : Nat) : Prop := w.ownsRow B 96 5 v k (c5 C k) ∧ B ≤ w.heap.size
theorem infoP : (Try.prog.info? 96).map (fun i => (i.zero, i.size, i.bytes)) = some (some (.agg #[.int .i64 0, .int .i64 0, .int .i64 0, .int .i64 0, .int .i64 0]), 5, 40) := by kernel_rfl
theorem PR.nil (B : Nat) (w : World) (C : Nat → Col) (h : B ≤ w.heap.size) : PR B w (.slice none 0 0) C 0 := ⟨World.ownsRow_nil _ _ _ _, h⟩
theorem PR.grown {B : Nat} {w w' : World} {v : Value} {C : Nat → Col} {k : Nat} {r : Option Nat} (h : PR B w v C k) (b : w.grownBy w' r) (hne : v.ownBlock = none ∨ v.ownBlock ≠ r) : PR B w' v C k := ⟨h.1.kept (row := r) b hne, Nat.le_trans h.2 b.size⟩
theorem PR.next {B : Nat} {w w' : World} {v : Value} {C : Nat → Col} {k : Nat} (h : PR B w v C k) (b : Below w.heap.size w w') : PR B w' v C k := h.grown (r := none) ⟨b.os, b.tape, b.output, b.size, fun i hi _ => b.block i hi⟩ (by cases hv : v.ownBlock <;> simp)
theorem PR.lt {B : Nat} {w : World} {v : Value} {C : Nat → Col} {k : Nat} (h : PR B w v C k) : ∀ g, v.ownBlock = some g → B ≤ g ∧ g < w.heap.size := fun g hg => h.1.lt g hg
theorem wpList_append_pr {ops : Array Oper} {rest : List Oper} {o : Oper} {a : Act} {w : World} {Q : Exit → Act → World → Prop} (s x : Operand) (hgd : o.guard = Option.none) (ho : o.op = .call { callee := .builtin .append, args := #[s, x], argTypes := #[112, 112] }) {B p cp k : Nat} {v : Value} {C : Nat → Col} (hs : a.eval s = v) (hx : a.eval x = .slice (some ⟨p, 0, Option.none⟩) 1 cp) (hv : PR B w v C k)
    (hY : w.cell? ⟨p, 0, Option.none⟩ = some (.int .i64 (C k).r) ∧ w.cell? ⟨p, 1, Option.none⟩ = some (.int .i64 (C k).g) ∧ w.cell? ⟨p, 2, Option.none⟩ = some (.int .i64 (C k).b) ∧ w.cell? ⟨p, 3, Option.none⟩ = some (.int .i64 (C k).a) ∧ w.cell? ⟨p, 4, Option.none⟩ = some (.int .i64 1)) (hl : k < 1000)
    (h : ∀ g cap w', PR B w' (.slice (some ⟨g, 0, Option.none⟩) (k + 1) cap) C (k + 1) → w.grownBy w' v.ownBlock → wpList Try.prog ops Q rest (a.put o.dst (.slice (some ⟨g, 0, Option.none⟩) (k + 1) cap)) w') : wpList Try.prog ops Q (o :: rest) a w := by
  obtain ⟨i0, hi, hz0, hz1, hz2⟩ := info_parts infoP
  obtain ⟨v', w', h1, h2, h3, -, -⟩ := run_append_own_at (P := Try.prog) w B 112 o.type 96 i0 (.agg #[.int .i64 0, .int .i64 0, .int .i64 0, .int .i64 0, .int .i64 0]) 5 40 Try.underlying112 hi hz0 hz1 hz2 rfl (by decide) v k (c5 C k) hv.1 ⟨p, 0, Option.none⟩ 1 cp [.int .i64 (C k).r, .int .i64 (C k).g, .int .i64 (C k).b, .int .i64 (C k).a, .int .i64 1] rfl
    (by
      intro j u hj
      match j, hj with
      | 0, hj => simp at hj; subst hj; simpa [Addr.add] using hY.1
      | 1, hj => simp at hj; subst hj; simpa [Addr.add] using hY.2.1
      | 2, hj => simp at hj; subst hj; simpa [Addr.add] using hY.2.2.1
      | 3, hj => simp at hj; subst hj; simpa [Addr.add] using hY.2.2.2.1
      | 4, hj => simp at hj; subst hj; simpa [Addr.add] using hY.2.2.2.2)
    (by intro u hu; simp at hu; rcases hu with rfl | rfl | rfl | rfl | rfl <;> rfl) (by unfold maxLen; omega) (by omega) hv.2
  obtain ⟨g, cap, rfl⟩ : ∃ g cap, v' = .slice (some ⟨g, 0, Option.none⟩) (k + 1) cap := by
    rcases h2.2 with ⟨_, h0⟩ | ⟨g, cap, cur, h0, _⟩
    · omega
    · exact ⟨g, cap, h0⟩
  exact Lib.wpList_append_run w hgd s x 112 112 ho v _ hs hx _ w' h1 (h g cap w' ⟨h2, Nat.le_trans hv.2 h3.size⟩ h3)
theorem c5_at (C : Nat → Col) : ∀ k i, i < k → (c5 C k)[i * 5]? = some (.int .i64 (C i).r) ∧ (c5 C k)[i * 5 + 1]? = some (.int .i64 (C i).g) ∧ (c5 C k)[i * 5 + 2]? = some (.int .i64 (C i).b) ∧ (c5 C k)[i * 5 + 3]? = some (.int .i64 (C i).a) ∧ (c5 C k)[i * 5 + 4]? = some (.int .i64 1)
  | 0, i, h => absurd h (Nat.not_lt_zero _)
  | k + 1, i, h => by
    have hl := c5_len C k
    rw [c5]
    by_cases e : i = k
    · subst e
      refine ⟨?_, ?_, ?_, ?_, ?_⟩
      · rw [List.getElem?_append_right (by omega), hl, Nat.sub_self]; rfl
      · rw [List.getElem?_append_right (by omega), hl, show i * 5 + 1 - i * 5 = 1 by omega]; rfl
      · rw [List.getElem?_append_right (by omega), hl, show i * 5 + 2 - i * 5 = 2 by omega]; rfl
      · rw [List.getElem?_append_right (by omega), hl, show i * 5 + 3 - i * 5 = 3 by omega]; rfl
      · rw [List.getElem?_append_right (by omega), hl, show i * 5 + 4 - i * 5 = 4 by omega]; rfl
    · have q := c5_at C k i (by omega)
      refine ⟨?_, ?_, ?_, ?_, ?_⟩
      · rw [List.getElem?_append_left (by omega)]; exact q.1
      · rw [List.getElem?_append_left (by omega)]; exact q.2.1
      · rw [List.getElem?_append_left (by omega)]; exact q.2.2.1
      · rw [List.getElem?_append_left (by omega)]; exact q.2.2.2.1
      · rw [List.getElem?_append_left (by omega)]; exact q.2.2.2.2
theorem PR.prow {B k : Nat} {w : World} {v : Value} {C : Nat → Col} (h : PR B w v C k) (hk : 0 < k) : PRow w v k C one := by
  have h2 := h.1
  rcases h2.2 with ⟨_, h0⟩ | ⟨g, cap, cur, rfl, _⟩
  · omega
  · refine ⟨g, 0, cap, rfl, fun i hi => ?_⟩
    have q := c5_at C k i hi
    refine ⟨?_, ?_, ?_, ?_, ?_⟩
    · rw [show 0 + i * 5 = i * 5 by omega, h2.cellAt _ (by omega)]; exact q.1
    · rw [show 0 + i * 5 + 1 = i * 5 + 1 by omega, h2.cellAt _ (by omega)]; exact q.2.1
    · rw [show 0 + i * 5 + 2 = i * 5 + 2 by omega, h2.cellAt _ (by omega)]; exact q.2.2.1
    · rw [show 0 + i * 5 + 3 = i * 5 + 3 by omega, h2.cellAt _ (by omega)]; exact q.2.2.2.1
    · rw [show 0 + i * 5 + 4 = i * 5 + 4 by omega, h2.cellAt _ (by omega)]; exact q.2.2.2.2
theorem al_one : ∀ n, al one n = n
  | 0 => rfl
  | n + 1 => by rw [al, al_one n, one]; omega
/-- How many colors are joined along a side. -/
def mn2 (A : Int) : Nat := (min A 2).toNat
def jnC (l A : Int) (L : List Int) (x y : Int) (i : Nat) : Col := pxC l L (ptN l A (x + (i % mn2 A : Nat)) (y + (i / mn2 A : Nat)))
/-- The color at a point of the next level. -/
def jqC (l A B : Int) (L : List Int) (X Y : Nat) : Col := blC (mn2 B * mn2 A) (jnC l A L (2 * (X : Int)) (2 * (Y : Int))) one
def pkK (l : Int) (c : Col) : List Int := pk l c.r c.g c.b c.a
def catB (g : Nat → List Int) : Nat → List Int
  | 0 => []
  | m + 1 => catB g m ++ g m
def nxG (l A B : Int) (L : List Int) (A' : Nat) (m : Nat) : List Int := pkK l (jqC l A B L (m % A') (m / A'))
/-- The bytes of the next level. -/
def nxL (l A B : Int) (L : List Int) (A' B' : Nat) : List Int := catB (nxG l A B L A') (B' * A')
/-- All levels, by their bytes. -/
def mpF (l s y : Int) (L0 : List Int) : Nat → List Int
  | 0 => L0
  | k + 1 => nxL l (sdI s k) (sdI y k) (mpF l s y L0 k) (sdI s (k + 1)).toNat (sdI y (k + 1)).toNat
theorem gS_sd {s : Int} (h : gS s) (k : Nat) (hk : k < 5) : gS (sdI s k) := by
  have h5 : k = 0 ∨ k = 1 ∨ k = 2 ∨ k = 3 ∨ k = 4 := by omega
  unfold gS
  rcases h with rfl | rfl | rfl | rfl | rfl <;> rcases h5 with rfl | rfl | rfl | rfl | rfl <;> decide
theorem sd_sd {s : Int} (h : gS s) (k : Nat) (hk : k < 5) : sdI (sdI s k) 1 = sdI s (k + 1) := by
  have h5 : k = 0 ∨ k = 1 ∨ k = 2 ∨ k = 3 ∨ k = 4 := by omega
  rcases h with rfl | rfl | rfl | rfl | rfl <;> rcases h5 with rfl | rfl | rfl | rfl | rfl <;> decide
theorem pk_len {l : Int} (hf : l = 1 ∨ l = 2 ∨ l = 3) (c : Col) : (pkK l c).length = szF l := by
  unfold pkK
  rcases hf with rfl | rfl | rfl <;> rfl
theorem pk_byte {l : Int} (hf : l = 1 ∨ l = 2 ∨ l = 3) {c : Col} (h : c.ok) : ∀ x, x ∈ pkK l c → 0 ≤ x ∧ x ≤ 255 := by
  intro x hx
  obtain ⟨⟨r0, r1⟩, ⟨g0, g1⟩, ⟨b0, b1⟩, ⟨a0, a1⟩⟩ := h
  unfold pkK pk at hx
  rcases hf with rfl | rfl | rfl
  · simp at hx; subst hx; exact ⟨r0, r1⟩
  · simp at hx; rcases hx with rfl | rfl | rfl | rfl <;> omega
  · simp at hx
    unfold shN at hx
    have h1 : 0 ≤ (c.r * 31 + 127) / 255 ∧ (c.r * 31 + 127) / 255 ≤ 31 := by omega
    have h2 : 0 ≤ (c.g * 63 + 127) / 255 ∧ (c.g * 63 + 127) / 255 ≤ 63 := by omega
    have h3 : 0 ≤ (c.b * 31 + 127) / 255 ∧ (c.b * 31 + 127) / 255 ≤ 31 := by omega
    generalize (c.r * 31 + 127) / 255 = u at *
    generalize (c.g * 63 + 127) / 255 = v at *
    generalize (c.b * 31 + 127) / 255 = y at *
    rcases hx with rfl | rfl <;> omega
theorem cat_len {g : Nat → List Int} {z : Nat} : ∀ m, (∀ i, i < m → (g i).length = z) → (catB g m).length = m * z
  | 0, _ => by simp [catB]
  | m + 1, h => by rw [catB, List.length_append, cat_len m (fun i hi => h i (by omega)), h m (by omega), Nat.succ_mul]
theorem cat_mem {g : Nat → List Int} {p : Int → Prop} : ∀ m, (∀ i, i < m → ∀ x, x ∈ g i → p x) → ∀ x, x ∈ catB g m → p x
  | 0, _, x, hx => by simp [catB] at hx
  | m + 1, h, x, hx => by
    rw [catB, List.mem_append] at hx
    rcases hx with hx | hx
    · exact cat_mem m (fun i hi => h i (by omega)) x hx
    · exact h m (by omega) x hx
theorem byte_getD {L : List Int} (h : ∀ x, x ∈ L → 0 ≤ x ∧ x ≤ 255) : ∀ j, j < L.length → 0 ≤ L.getD j 0 ∧ L.getD j 0 ≤ 255 := fun j hj => h _ (by simp [List.getD, hj])
theorem mn2_pos {A : Int} (h : 1 ≤ A) : 1 ≤ mn2 A ∧ mn2 A ≤ 2 := by unfold mn2; omega
theorem jq_ok {l A B : Int} (hf : l = 1 ∨ l = 2 ∨ l = 3) {L : List Int} (hb : ∀ j, j < L.length → 0 ≤ L.getD j 0 ∧ L.getD j 0 ≤ 255) (a0 : 1 ≤ A) (b0 : 1 ≤ B) (X Y : Nat) : (jqC l A B L X Y).ok := by
  have ha := mn2_pos a0
  have hb2 := mn2_pos b0
  have hp : 1 * 1 ≤ mn2 B * mn2 A := Nat.mul_le_mul hb2.1 ha.1
  exact bl_ok _ _ _ (fun i _ => px_ok l L _ hf hb) (fun i _ => by unfold one; omega) (by rw [al_one]; omega)
theorem nx_len {l A B : Int} (hf : l = 1 ∨ l = 2 ∨ l = 3) (L : List Int) (A' B' : Nat) : (nxL l A B L A' B').length = B' * A' * szF l := cat_len _ (fun i _ => pk_len hf _)
theorem nx_byte {l A B : Int} (hf : l = 1 ∨ l = 2 ∨ l = 3) {L : List Int} (hb : ∀ j, j < L.length → 0 ≤ L.getD j 0 ∧ L.getD j 0 ≤ 255) (a0 : 1 ≤ A) (b0 : 1 ≤ B) (A' B' : Nat) : ∀ x, x ∈ nxL l A B L A' B' → 0 ≤ x ∧ x ≤ 255 := cat_mem _ (fun i _ => pk_byte hf (jq_ok hf hb a0 b0 _ _))
/-- Each level is as long as it should be, and of bytes. -/
theorem mp_ok {l s y : Int} (hf : l = 1 ∨ l = 2 ∨ l = 3) (hs : gS s) (hy : gS y) {L0 : List Int} (h0 : (L0.length : Int) = s * y * (szF l : Int)) (hb : ∀ x, x ∈ L0 → 0 ≤ x ∧ x ≤ 255) : ∀ k, k < 5 → ((mpF l s y L0 k).length : Int) = sdI s k * sdI y k * (szF l : Int) ∧ ∀ x, x ∈ mpF l s y L0 k → 0 ≤ x ∧ x ≤ 255
  | 0, _ => ⟨by rw [mpF, sdI_zero hs, sdI_zero hy]; exact h0, hb⟩
  | k + 1, hk => by
    have h := mp_ok hf hs hy h0 hb k (by omega)
    have e1 : (((sdI s (k + 1)).toNat : Nat) : Int) = sdI s (k + 1) := by have := sdI_pos s (k + 1); omega
    have e2 : (((sdI y (k + 1)).toNat : Nat) : Int) = sdI y (k + 1) := by have := sdI_pos y (k + 1); omega
    refine ⟨?_, ?_⟩
    · rw [mpF, nx_len hf, Int.natCast_mul, Int.natCast_mul, e1, e2, Int.mul_comm (sdI y (k + 1))]
    · rw [mpF]
      exact nx_byte hf (byte_getD h.2) (sdI_pos _ _) (sdI_pos _ _) _ _
end Go.Proofs.Ythkngcdfnemhaaa
