/- Rows of colors and of whole numbers that are appended to; the model's NewScreen. -/
import Derived.Test.YtkngjngmalogaaaDc
import Derived.Maps.AppendAt
import Derived.Lib.AppendZeros
import Derived.Lib.OwnKind
import Derived.Laws.AppendOwnNone
namespace Go.Proofs.Ytkngjngmalogaaa
open Go.ChangeShapes Go.WideShapes Go.ChangeAt Go.RowKit
set_option linter.unusedVariables false
theorem il_app (a b : List Int) : il (a ++ b) = il a ++ il b := List.map_append
/-- A row of whole numbers that a call is making. -/
def Ri (B : Nat) (w : World) (v : Value) (L : List Int) : Prop := w.ownsRow B 3 1 v L.length (il L) ∧ B ≤ w.heap.size
theorem Ri.next {B : Nat} {w w' : World} {v : Value} {L : List Int} (h : Ri B w v L) (b : Below w.heap.size w w') : Ri B w' v L :=
  ⟨h.1.kept (row := none) ⟨b.os, b.tape, b.output, b.size, fun i hi _ => b.block i hi⟩ (by cases e : v.ownBlock <;> simp), Nat.le_trans h.2 b.size⟩
theorem Ri.alloc {B : Nat} {w : World} {v : Value} {L : List Int} (h : Ri B w v L) (o : Obj) : Ri B (w.alloc o) v L := h.next ((Below.refl _ _).alloc (Nat.le_refl _) _)
theorem Ri.lt {B : Nat} {w : World} {v : Value} {L : List Int} (h : Ri B w v L) : ∀ g, v.ownBlock = some g → B ≤ g ∧ g < w.heap.size := fun g hg => h.1.lt g hg
theorem ri_cases {B : Nat} {w : World} {u : Value} {M : List Int} (h : Ri B w u M) : (M = [] ∧ u = .slice none 0 0) ∨ ∃ g c, u = .slice (some ⟨g, 0, none⟩) M.length c ∧ M.length ≤ c ∧ g < w.heap.size ∧ ∀ i, i < M.length → w.cell? ⟨g, i, none⟩ = some (.int .i64 (M.getD i 0)) := by
  have hw := h.1
  rcases h.1.2 with ⟨h1, h2⟩ | ⟨g, c, cur, h1, h2, h3, h4, h5, h6, h7⟩
  · exact Or.inl ⟨List.eq_nil_of_length_eq_zero h2, h1⟩
  · refine Or.inr ⟨g, c, h1, h4, (h.lt g (by rw [h1]; rfl)).2, fun i hi => ?_⟩
    subst h1
    rw [World.ownsRow.cellAt hw i (by omega)]
    simp [il, List.getD, hi]
theorem il_cells {w : World} {g p : Nat} {N : List Int} (h : ∀ i, i < N.length → w.cell? ⟨g, p + i, none⟩ = some (.int .i64 (N.getD i 0))) : ∀ j u, (il N)[j]? = some u → w.cell? ((⟨g, p, none⟩ : Addr).add j) = some u := by
  intro j u hj
  have hl : j < N.length := by
    rcases Nat.lt_or_ge j N.length with h | h
    · exact h
    · rw [List.getElem?_eq_none (by simpa [il] using h)] at hj; cases hj
  have := h j hl
  simp [il, hl] at hj
  have e : (⟨g, p, none⟩ : Addr).add j = ⟨g, p + j, none⟩ := by cases j <;> simp [Addr.add]
  rw [e, this, ← hj]
  simp [List.getD, hl]
theorem il_one (N : List Int) : ∀ u ∈ il N, u.oneCell' = true := by
  intro u hu
  simp [il] at hu
  obtain ⟨z, _, rfl⟩ := hu
  rfl
theorem il_len (N : List Int) : (il N).length = N.length * 1 := by simp [il]
theorem ri_of {B b : Nat} {w : World} {u : Value} {n : Nat} {xs : List Value} {M : List Int} (h : w.ownsRow b 3 1 u n xs) (hb : B ≤ b) (hs : b ≤ w.heap.size) (hn : n = M.length) (hx : xs = il M) : Ri B w u M := by
  subst hn hx
  refine ⟨⟨h.1, ?_⟩, Nat.le_trans hb hs⟩
  rcases h.2 with h1 | ⟨g, c, cur, h1, h2, h3⟩
  · exact Or.inl h1
  · exact Or.inr ⟨g, c, cur, h1, Nat.le_trans hb h2, h3⟩
theorem run_append_none {P : Program} (w : World) (t ty e : TypeId) (i : TypeInfo) (ht : P.underlying t = some (.slice e)) (hi : P.info? e = some i) (a b : Option Addr) (n cap c : Nat) (h : n ≤ cap) : (Builtin.append_ #[t, t] ty #[.slice a n cap, .slice b 0 c]).run P w = .ok (.slice a n cap) w := by
  cases a <;> cases b <;> simp [Builtin.append_, run_underlying ht, sizeOf, typeInfo, hi, Builtin.lenOf, h, Builtin.firstCells, storeCells, loadCells, loadCellsFrom]
theorem Ri.nil (B : Nat) (w : World) (h : B ≤ w.heap.size) : Ri B w (.slice none 0 0) [] := ⟨World.ownsRow_nil _ _ _ _, h⟩
theorem grown_refl (w : World) (r : Option Nat) : w.grownBy w r := ⟨rfl, rfl, rfl, Nat.le_refl _, fun _ _ _ => rfl⟩
/-- An append of a row as it is read onto a row of the call's own. -/
theorem run_append_ri {P : Program} {t : TypeId} (ty : TypeId) {i : TypeInfo} (ht : P.underlying t = some (.slice 3)) (hi : P.info? 3 = some i) (hz : i.zero = some (.int .i64 0)) (hsize : i.size = 1) (hby : i.bytes = 8) {w : World} {B : Nat} {v X : Value} {M L : List Int} (hv : Ri B w v M) (hX : ARow w X L) (hl : M.length + L.length ≤ 100000) :
    ∃ v' w', (Builtin.append_ #[t, t] ty #[v, X]).run P w = .ok v' w' ∧ Ri B w' v' (M ++ L) ∧ w.grownBy w' v.ownBlock ∧ (v'.ownBlock = v.ownBlock ∨ v'.ownBlock = some w.heap.size) := by
  obtain ⟨ad, c, rfl, hc⟩ := hX
  by_cases e : L = []
  · subst e
    obtain ⟨au, cu, hu, hcu⟩ : ∃ au cu, v = .slice au M.length cu ∧ M.length ≤ cu := by
      rcases hv.1.2 with ⟨hv, h0⟩ | ⟨gg, cap, cur, hv, _, _, h3, _⟩
      · exact ⟨none, 0, by rw [hv, h0], by omega⟩
      · exact ⟨_, _, hv, h3⟩
    refine ⟨v, w, ?_, by rw [List.append_nil]; exact hv, grown_refl _ _, Or.inl rfl⟩
    rw [hu]
    exact run_append_none w t ty 3 i ht hi au ad M.length cu c hcu
  · have hp := List.length_pos_iff.2 e
    obtain ⟨g, o, rfl, _⟩ := hc 0 hp
    have hcell : ∀ j, j < L.length → w.cell? ⟨g, o + j, none⟩ = some (.int .i64 (L.getD j 0)) := fun j hj => by
      obtain ⟨g', o', h1, h2⟩ := hc j hj
      injection h1 with h1
      injection h1 with h1 h3
      subst h1; subst h3
      exact h2
    obtain ⟨v', w', h1, h2, h3, h4, h5⟩ := run_append_own_at (P := P) w B t ty 3 i (.int .i64 0) 1 8 ht hi hz hsize hby rfl (by decide) v M.length (il M) hv.1 ⟨g, o, none⟩ L.length c (il L) (il_len L) (il_cells hcell) (il_one L) (by unfold maxLen; omega) (by omega) hv.2
    refine ⟨v', w', h1, ⟨?_, Nat.le_trans hv.2 h3.size⟩, h3, h5⟩
    rw [List.length_append, il_app]
    exact h2
/-- .. in a walk: it stops behind the append. -/
theorem wpList_append_ri {P : Program} {ops : Array Oper} {rest : List Oper} {o : Oper} {a : Act} {w : World} {Q : Exit → Act → World → Prop} (s x : Operand) {t : TypeId} {i : TypeInfo} (ht : P.underlying t = some (.slice 3)) (hi : P.info? 3 = some i) (hz : i.zero = some (.int .i64 0)) (hsize : i.size = 1) (hby : i.bytes = 8) (hgd : o.guard = Option.none) (ho : o.op = .call { callee := .builtin .append, args := #[s, x], argTypes := #[t, t] }) {B : Nat} {v X : Value} {M L : List Int} (hs : a.eval s = v) (hx : a.eval x = X) (hv : Ri B w v M) (hX : ARow w X L) (hl : M.length + L.length ≤ 100000)
    (h : ∀ v' w', Ri B w' v' (M ++ L) → w.grownBy w' v.ownBlock → (v'.ownBlock = v.ownBlock ∨ v'.ownBlock = some w.heap.size) → wpList P ops Q rest (a.put o.dst v') w') : wpList P ops Q (o :: rest) a w := by
  obtain ⟨v', w', h1, h2, h3, h4⟩ := run_append_ri (P := P) o.type ht hi hz hsize hby hv hX hl
  exact Lib.wpList_append_run w hgd s x t t ho v X hs hx v' w' h1 (h v' w' h2 h3 h4)
theorem ARow.one (w : World) (x : Int) : ARow (w.alloc (.cells #[.int .i64 x] 3)) (.slice (some ⟨w.heap.size, 0, Option.none⟩) 1 1) [x] := by
  refine ⟨_, 1, rfl, fun i hi => ⟨w.heap.size, 0, rfl, ?_⟩⟩
  obtain rfl : i = 0 := by simpa using hi
  simp
def cellsK : List Col → List Value
  | [] => []
  | q :: r => .int .i64 q.r :: .int .i64 q.g :: .int .i64 q.b :: .int .i64 q.a :: cellsK r
theorem cellsK_app : ∀ (l m : List Col), cellsK (l ++ m) = cellsK l ++ cellsK m
  | [], m => rfl
  | q :: r, m => by simp [cellsK, cellsK_app r m]
/-- A row of colors of one's own, from block B on. -/
def KR (B : Nat) (w : World) (v : Value) (L : List Col) : Prop := w.ownsRow B 30 4 v L.length (cellsK L) ∧ B ≤ w.heap.size
theorem KR.nil (B : Nat) (w : World) (h : B ≤ w.heap.size) : KR B w (.slice none 0 0) [] := ⟨World.ownsRow_nil _ _ _ _, h⟩
theorem KR.lt {B : Nat} {w : World} {v : Value} {L : List Col} (h : KR B w v L) : ∀ g, v.ownBlock = some g → B ≤ g ∧ g < w.heap.size := fun g hg => h.1.lt g hg
theorem KR.next {B : Nat} {w w' : World} {v : Value} {L : List Col} (h : KR B w v L) (b : Below w.heap.size w w') : KR B w' v L := ⟨h.1.kept (row := none) ⟨b.os, b.tape, b.output, b.size, fun i hi _ => b.block i hi⟩ (by cases hv : v.ownBlock <;> simp), Nat.le_trans h.2 b.size⟩
theorem KR.alloc {B : Nat} {w : World} {v : Value} {L : List Col} (h : KR B w v L) (o : Obj) : KR B (w.alloc o) v L := h.next alloc_b
theorem infoCo : (Try.prog.info? 30).map (fun i => (i.zero, i.size, i.bytes)) = some (some (.agg #[.int .i64 0, .int .i64 0, .int .i64 0, .int .i64 0]), 4, 32) := by kernel_rfl
theorem run_append_col {w : World} {ty : TypeId} {B p c : Nat} {v : Value} {L : List Col} {q : Col} (R : KR B w v L) (Y : C4 w p (.int .i64 q.r) (.int .i64 q.g) (.int .i64 q.b) (.int .i64 q.a)) (hl : L.length < 1000000) :
    ∃ g cap w', (Builtin.append_ #[24, 24] ty #[v, .slice (some ⟨p, 0, none⟩) 1 c]).run Try.prog w = .ok (.slice (some ⟨g, 0, none⟩) (L.length + 1) cap) w' ∧ KR B w' (.slice (some ⟨g, 0, none⟩) (L.length + 1) cap) (L ++ [q]) ∧ w.grownBy w' v.ownBlock := by
  obtain ⟨i0, hi, hz0, hz1, hz2⟩ := info_parts infoCo
  obtain ⟨v', w', h1, h2, h3, -, -⟩ := run_append_own_at (P := Try.prog) w B 24 ty 30 i0 (.agg #[.int .i64 0, .int .i64 0, .int .i64 0, .int .i64 0]) 4 32 Try.underlying24 hi hz0 hz1 hz2 rfl (by decide) v L.length (cellsK L) R.1 ⟨p, 0, none⟩ 1 c [.int .i64 q.r, .int .i64 q.g, .int .i64 q.b, .int .i64 q.a] rfl
    (by
      intro j u hj
      match j, hj with
      | 0, hj => simp at hj; subst hj; simpa [Addr.add] using Y.c0
      | 1, hj => simp at hj; subst hj; simpa [Addr.add] using Y.c1
      | 2, hj => simp at hj; subst hj; simpa [Addr.add] using Y.c2
      | 3, hj => simp at hj; subst hj; simpa [Addr.add] using Y.c3)
    (by intro u hu; simp at hu; rcases hu with rfl | rfl | rfl | rfl <;> rfl) (by unfold maxLen; omega) (by omega) R.2
  obtain ⟨g, cap, rfl⟩ : ∃ g cap, v' = .slice (some ⟨g, 0, none⟩) (L.length + 1) cap := by
    rcases h2.2 with ⟨_, h0⟩ | ⟨g, cap, cur, h0, _⟩
    · omega
    · exact ⟨g, cap, h0⟩
  refine ⟨g, cap, w', h1, ⟨?_, Nat.le_trans R.2 h3.size⟩, h3⟩
  rw [List.length_append, cellsK_app]
  exact h2
/-- The first k of a function's colors. -/
def cL (C : Nat → Col) : Nat → List Col
  | 0 => []
  | k + 1 => cL C k ++ [C k]
theorem cL_len (C : Nat → Col) : ∀ k, (cL C k).length = k
  | 0 => rfl
  | k + 1 => by rw [cL, List.length_append, cL_len C k]; rfl
theorem cellsK_len : ∀ L : List Col, (cellsK L).length = L.length * 4
  | [] => rfl
  | q :: r => by simp only [cellsK, List.length_cons, cellsK_len r]; omega
theorem cK_at (C : Nat → Col) : ∀ k i, i < k → (cellsK (cL C k))[i * 4]? = some (.int .i64 (C i).r) ∧ (cellsK (cL C k))[i * 4 + 1]? = some (.int .i64 (C i).g) ∧ (cellsK (cL C k))[i * 4 + 2]? = some (.int .i64 (C i).b) ∧ (cellsK (cL C k))[i * 4 + 3]? = some (.int .i64 (C i).a)
  | 0, i, h => absurd h (Nat.not_lt_zero _)
  | k + 1, i, h => by
    have hl : (cellsK (cL C k)).length = k * 4 := by rw [cellsK_len, cL_len]
    rw [cL, cellsK_app]
    by_cases e : i = k
    · subst e
      refine ⟨?_, ?_, ?_, ?_⟩
      · rw [List.getElem?_append_right (by omega), hl, Nat.sub_self]; rfl
      · rw [List.getElem?_append_right (by omega), hl, show i * 4 + 1 - i * 4 = 1 by omega]; rfl
      · rw [List.getElem?_append_right (by omega), hl, show i * 4 + 2 - i * 4 = 2 by omega]; rfl
      · rw [List.getElem?_append_right (by omega), hl, show i * 4 + 3 - i * 4 = 3 by omega]; rfl
    · have q := cK_at C k i (by omega)
      refine ⟨?_, ?_, ?_, ?_⟩
      · rw [List.getElem?_append_left (by omega)]; exact q.1
      · rw [List.getElem?_append_left (by omega)]; exact q.2.1
      · rw [List.getElem?_append_left (by omega)]; exact q.2.2.1
      · rw [List.getElem?_append_left (by omega)]; exact q.2.2.2
theorem wpList_append_col {ops : Array Oper} {rest : List Oper} {o : Oper} {a : Act} {w : World} {Q : Exit → Act → World → Prop} (s x : Operand) (hgd : o.guard = Option.none) (ho : o.op = .call { callee := .builtin .append, args := #[s, x], argTypes := #[24, 24] }) {B p cp : Nat} {v : Value} {L : List Col} {q : Col} (hs : a.eval s = v) (hx : a.eval x = .slice (some ⟨p, 0, Option.none⟩) 1 cp) (hv : KR B w v L) (Y : C4 w p (.int .i64 q.r) (.int .i64 q.g) (.int .i64 q.b) (.int .i64 q.a)) (hl : L.length < 1000000)
    (h : ∀ g cap w', KR B w' (.slice (some ⟨g, 0, Option.none⟩) (L.length + 1) cap) (L ++ [q]) → w.grownBy w' v.ownBlock → wpList Try.prog ops Q rest (a.put o.dst (.slice (some ⟨g, 0, Option.none⟩) (L.length + 1) cap)) w') : wpList Try.prog ops Q (o :: rest) a w := by
  obtain ⟨g, cap, w', h1, h2, h3⟩ := run_append_col (ty := o.type) (c := cp) hv Y hl
  exact Lib.wpList_append_run w hgd s x 24 24 ho v _ hs hx _ w' h1 (h g cap w' h2 h3)
theorem kne {w : World} {B B' e e' s s' n n' : Nat} {v v' : Value} {xs xs' : List Value} (h : w.ownsRow B e s v n xs) (h' : w.ownsRow B' e' s' v' n' xs') (ne : e ≠ e') : ∀ q, v.ownBlock = some q → v'.ownBlock ≠ some q := fun q hq e2 => by
  obtain ⟨c, f, h1⟩ := Lib.ownsRow_kind h q hq
  obtain ⟨c', f', h2⟩ := Lib.ownsRow_kind h' q e2
  rw [h1] at h2
  injection h2 with h2
  injection h2 with _ h3
  exact ne h3
theorem KR.grown {B : Nat} {w w' : World} {v : Value} {L : List Col} {r : Option Nat} (h : KR B w v L) (b : w.grownBy w' r) (hne : v.ownBlock = none ∨ v.ownBlock ≠ r) : KR B w' v L := ⟨h.1.kept (row := r) b hne, Nat.le_trans h.2 b.size⟩
theorem Ri.grown {B : Nat} {w w' : World} {v : Value} {L : List Int} {r : Option Nat} (h : Ri B w v L) (b : w.grownBy w' r) (hne : v.ownBlock = none ∨ v.ownBlock ≠ r) : Ri B w' v L := ⟨h.1.kept (row := r) b hne, Nat.le_trans h.2 b.size⟩
theorem only_grown {w w' : World} {p : Nat} (b : Only p w w') : w.grownBy w' (some p) := ⟨b.os, b.tape, b.output, b.size, fun k hk hn => b.block k hk (fun e => hn (by rw [e]))⟩
theorem C4.low {w w' : World} {b B : Nat} {v0 v1 v2 v3 : Value} (h : C4 w b v0 v1 v2 v3) (k : Below B w w') (hb : b < B) : C4 w' b v0 v1 v2 v3 := h.block (k.block b hb) k.size
/-- Whole numbers of its own. -/
def IV (w : World) (v : Value) (n : Nat) (f : Nat → Int) : Prop := (n = 0 ∧ v = .slice none 0 0) ∨ ∃ o c, v = .slice (some ⟨o, 0, none⟩) n c ∧ Own w o n (fun i => .int .i64 (f i))
theorem KR.rowV {B k : Nat} {w : World} {v : Value} {C : Nat → Col} (h : KR B w v (cL C k)) : RowHV w v k (fun i => (C i).r) (fun i => (C i).g) (fun i => (C i).b) (fun i => (C i).a) := by
  have h2 := h.1
  rw [cL_len] at h2
  rcases h2.2 with ⟨hv, h0⟩ | ⟨g, cap, cur, rfl, _⟩
  · exact Or.inl ⟨h0, hv⟩
  · refine Or.inr ⟨g, cap, rfl, ⟨fun i hi => ?_, fun i hi => ?_, fun i hi => ?_, fun i hi => ?_, fun i => h2.frozenAt i, (h2.lt _ rfl).2⟩⟩
    · rw [h2.cellAt _ (by omega)]; exact (cK_at C k i hi).1
    · rw [h2.cellAt _ (by omega)]; exact (cK_at C k i hi).2.1
    · rw [h2.cellAt _ (by omega)]; exact (cK_at C k i hi).2.2.1
    · rw [h2.cellAt _ (by omega)]; exact (cK_at C k i hi).2.2.2
theorem Ri.iv {B k : Nat} {w : World} {v : Value} {f : Nat → Int} (h : Ri B w v (fl f k)) : IV w v k f := by
  have h2 := h.1
  rw [fl_len] at h2
  rcases h2.2 with ⟨hv, h0⟩ | ⟨g, cap, cur, rfl, _⟩
  · exact Or.inl ⟨h0, hv⟩
  · refine Or.inr ⟨g, cap, rfl, own_owned h2 _ fun i hi => ?_⟩
    have e := fl_at f k i hi
    have hl : i < (fl f k).length := by rw [fl_len]; exact hi
    rw [← e]
    simp [il, List.getD, hl]
/-- What NewScreen makes: a screen whose rows are its own, from block B on. -/
def NwA (B : Nat) (w : World) (a : Value) (sw sh : Int) (n : Nat) (c : Col) : Prop := ∃ x z, a = .agg #[.int .i64 sw, .int .i64 sh, x, z] ∧ RowHV w x n (fun _ => c.r) (fun _ => c.g) (fun _ => c.b) (fun _ => c.a) ∧ IV w z n (fun _ => 65536) ∧ (∀ g, x.ownBlock = some g → B ≤ g ∧ g < w.heap.size) ∧ (∀ g, z.ownBlock = some g → B ≤ g ∧ g < w.heap.size) ∧ (∀ g, x.ownBlock = some g → z.ownBlock ≠ some g)
def nwB (sw sh : Int) (c : Col) : Bool := sdB sw sh && kgB c
theorem NwA.none (B : Nat) (w : World) (c : Col) : NwA B w (.agg #[.int .i64 0, .int .i64 0, .slice none 0 0, .slice none 0 0]) 0 0 0 c := ⟨_, _, rfl, Or.inl ⟨rfl, rfl⟩, Or.inl ⟨rfl, rfl⟩, fun g hg => by simp [Value.ownBlock] at hg, fun g hg => by simp [Value.ownBlock] at hg, fun g hg => by simp [Value.ownBlock] at hg⟩
/-- What it answers: whether, and how much. -/
def nwN (sw sh : Int) (c : Col) : Nat := if nwB sw sh c then (sw * sh).toNat else 0
def nwX (sw sh x : Int) (c : Col) : Int := if nwB sw sh c then x else 0
set_option maxRecDepth 100000 in
set_option maxHeartbeats 4000000 in
theorem mnew (sw sh : Int) (c : Col) (w : World) : Calls Try.prog 5 #[.int .i64 sw, .int .i64 sh, colV c] w fun e w' => ∃ a, e = .returned (.tuple #[a, .bool (nwB sw sh c)]) ∧ NwA w.heap.size w' a (nwX sw sh sw c) (nwX sw sh sh c) (nwN sw sh c) c ∧ Below w.heap.size w w' := by
  have HS : Hid (∀ w, Calls Try.prog 15 #[.int .i64 sw, .int .i64 sh] w fun e w' => e = .returned (.bool (sdB sw sh)) ∧ w' = w) := fun w => msides sw sh w
  have HG : Hid (∀ w, Calls Try.prog 16 #[.agg #[.int .i64 c.r, .int .i64 c.g, .int .i64 c.b, .int .i64 c.a]] w fun e w' => e = .returned (.bool (kgB c)) ∧ Below w.heap.size w w') := fun w => good11 c.r c.g c.b c.a w
  have HAL : Hid (∀ w', Below ((w.alloc (.cells #[.int .i64 c.r, .int .i64 c.g, .int .i64 c.b, .int .i64 c.a] 30)).alloc (.cells #[.int .i64 0, .int .i64 0, .slice none 0 0, .slice none 0 0] 27)).heap.size ((w.alloc (.cells #[.int .i64 c.r, .int .i64 c.g, .int .i64 c.b, .int .i64 c.a] 30)).alloc (.cells #[.int .i64 0, .int .i64 0, .slice none 0 0, .slice none 0 0] 27)) w' → C4 w' w.heap.size (.int .i64 c.r) (.int .i64 c.g) (.int .i64 c.b) (.int .i64 c.a) ∧ C4 w' (w.heap.size + 1) (.int .i64 0) (.int .i64 0) (.slice none 0 0) (.slice none 0 0) ∧ Below w.heap.size w w') := fun w' b => ⟨((C4.new w 30 (.int .i64 c.r) (.int .i64 c.g) (.int .i64 c.b) (.int .i64 c.a)).next (alloc_b (o := (.cells #[.int .i64 0, .int .i64 0, .slice none 0 0, .slice none 0 0] 27)))).next b, by
    have h := (C4.new (w.alloc (.cells #[.int .i64 c.r, .int .i64 c.g, .int .i64 c.b, .int .i64 c.a] 30)) 27 (.int .i64 0) (.int .i64 0) (.slice none 0 0) (.slice none 0 0)).next b
    rwa [World.size_alloc] at h, (b2_ (o1 := (.cells #[.int .i64 c.r, .int .i64 c.g, .int .i64 c.b, .int .i64 c.a] 30)) (o2 := (.cells #[.int .i64 0, .int .i64 0, .slice none 0 0, .slice none 0 0] 27))).trans (b.mono (b2_ (o1 := (.cells #[.int .i64 c.r, .int .i64 c.g, .int .i64 c.b, .int .i64 c.a] 30)) (o2 := (.cells #[.int .i64 0, .int .i64 0, .slice none 0 0, .slice none 0 0] 27))).size)⟩
  obtain ⟨V0, hV0⟩ : ∃ z, ((w.alloc (.cells #[.int .i64 c.r, .int .i64 c.g, .int .i64 c.b, .int .i64 c.a] 30)).alloc (.cells #[.int .i64 0, .int .i64 0, .slice none 0 0, .slice none 0 0] 27)) = z := ⟨_, rfl⟩
  have HV0 := Hid.mk hV0
  rw [hV0] at HAL
  clear hV0
  obtain ⟨K0, D0, BX0⟩ := HAL.out V0 (Below.refl _ _)
  unfold colV
  cases hs : sdB sw sh
  · have hn : nwB sw sh c = false := by unfold nwB; rw [hs]; rfl
    unfold nwN nwX
    rw [hn, if_neg (by decide), if_neg (by decide), if_neg (by decide)]
    rw [hs] at HS
    have k0 := K0.c0
    have k1 := K0.c1
    have k2 := K0.c2
    have k3 := K0.c3
    have x0 := D0.c0
    have x1 := D0.c1
    have x2 := D0.c2
    have x3 := D0.c3
    have xf := D0.f
    go_enter Try.func5, Try.ntmps5
    go_upto_region 1 with fail
    rw [HV0.out]
    clear HV0
    go_wp2_with (go_at_call 15; refine (HS.out _).mono ?_; rintro e9 w9 ⟨rfl, hw⟩; subst w9)
    clear x0 x1 x2 x3 xf
    have D6 := D0.put (.int .i64 0) (.int .i64 0) (.slice none 0 0) (.slice none 0 0)
    have B06 : Below w.heap.size w (set4 V0 (w.heap.size + 1) (.int .i64 0) (.int .i64 0) (.slice none 0 0) (.slice none 0 0)) := BX0.trans ((only_set4 V0 (w.heap.size + 1) (.int .i64 0) (.int .i64 0) (.slice none 0 0) (.slice none 0 0)).below (by omega) BX0.size)
    unfold set4 at D6 B06
    have r0 := D6.c0
    have r1 := D6.c1
    have r2 := D6.c2
    have r3 := D6.c3
    exact bodyPost_ret (v := .tuple #[.agg #[.int .i64 0, .int .i64 0, .slice none 0 0, .slice none 0 0], .bool false]) (by simp [results, Try.results5, go_sem, r0, r1, r2, r3]) rfl ⟨_, rfl, NwA.none _ _ _, B06⟩
  rw [hs] at HS
  cases hg : kgB c
  · have hn : nwB sw sh c = false := by unfold nwB; rw [hs, hg]; rfl
    unfold nwN nwX
    rw [hn, if_neg (by decide), if_neg (by decide), if_neg (by decide)]
    rw [hg] at HG
    have k0 := K0.c0
    have k1 := K0.c1
    have k2 := K0.c2
    have k3 := K0.c3
    have x0 := D0.c0
    have x1 := D0.c1
    have x2 := D0.c2
    have x3 := D0.c3
    have xf := D0.f
    go_enter Try.func5, Try.ntmps5
    go_upto_region 1 with fail
    rw [HV0.out]
    clear HV0
    go_wp2_with (first | (go_at_call 15; refine (HS.out _).mono ?_; rintro e9 w9 ⟨rfl, hw⟩; subst w9) | (go_at_call 16; refine (HG.out _).mono ?_; rintro e9 w2 ⟨rfl, B2⟩; (obtain ⟨K2, D2, BX2⟩ := HAL.out w2 B2); (have k0 := K2.c0); (have k1 := K2.c1); (have k2 := K2.c2); (have k3 := K2.c3); (have x0 := D2.c0); (have x1 := D2.c1); (have x2 := D2.c2); (have x3 := D2.c3); (have xf := D2.f)))
    clear x0 x1 x2 x3 xf
    have D6 := D2.put (.int .i64 0) (.int .i64 0) (.slice none 0 0) (.slice none 0 0)
    have B06 : Below w.heap.size w (set4 w2 (w.heap.size + 1) (.int .i64 0) (.int .i64 0) (.slice none 0 0) (.slice none 0 0)) := BX2.trans ((only_set4 w2 (w.heap.size + 1) (.int .i64 0) (.int .i64 0) (.slice none 0 0) (.slice none 0 0)).below (by omega) BX2.size)
    unfold set4 at D6 B06
    have r0 := D6.c0
    have r1 := D6.c1
    have r2 := D6.c2
    have r3 := D6.c3
    exact bodyPost_ret (v := .tuple #[.agg #[.int .i64 0, .int .i64 0, .slice none 0 0, .slice none 0 0], .bool false]) (by simp [results, Try.results5, go_sem, r0, r1, r2, r3]) rfl ⟨_, rfl, NwA.none _ _ _, B06⟩
  rw [hg] at HG
  have hn : nwB sw sh c = true := by unfold nwB; rw [hs, hg]; rfl
  unfold nwN nwX
  rw [hn, if_pos rfl, if_pos rfl, if_pos rfl]
  obtain ⟨b0, b1⟩ := area_bnd hs
  obtain ⟨P, hP⟩ : ∃ z, sw * sh = z := ⟨_, rfl⟩
  rw [hP] at b0 b1 ⊢
  have hPw : IntKind.i64.wrap P = P := (IntKind.wrap_i64 _).trans (by omega)
  obtain ⟨n, hPn⟩ : ∃ n : Nat, P = (n : Int) := ⟨P.toNat, by omega⟩
  subst hPn
  rw [show ((n : Int)).toNat = n by omega]
  have n1 : 1 ≤ n := by omega
  have n2 : n ≤ 576 := by omega
  clear hn hs hg
  obtain ⟨i3, hi3, hz30, hz31, hz32⟩ := info_parts info3
  have k0 := K0.c0
  have k1 := K0.c1
  have k2 := K0.c2
  have k3 := K0.c3
  go_enter Try.func5, Try.ntmps5
  go_upto_region 1 with fail
  rw [HV0.out]
  clear HV0
  go_upto_region 5 with (first | (go_at_call 15; refine (HS.out _).mono ?_; rintro e9 w9 ⟨rfl, hw⟩; subst w9) | (go_at_call 16; refine (HG.out _).mono ?_; rintro e9 w2 ⟨rfl, B2⟩; (obtain ⟨K2, D2, BX2⟩ := HAL.out w2 B2); (have k0 := K2.c0); (have k1 := K2.c1); (have k2 := K2.c2); (have k3 := K2.c3)))
  clear k0 k1 k2 k3 K0 D0 BX0
  have S3 := C4.new w2 27 (.int .i64 sw) (.int .i64 sh) (.slice none 0 0) (.slice none 0 0)
  have K3 := K2.next (alloc_b (o := (.cells #[.int .i64 sw, .int .i64 sh, .slice none 0 0, .slice none 0 0] 27)))
  have D3 := D2.next (alloc_b (o := (.cells #[.int .i64 sw, .int .i64 sh, .slice none 0 0, .slice none 0 0] 27)))
  have BX3 := BX2.alloc BX2.size (.cells #[.int .i64 sw, .int .i64 sh, .slice none 0 0, .slice none 0 0] 27)
  have hsz : (w2.alloc (.cells #[.int .i64 sw, .int .i64 sh, .slice none 0 0, .slice none 0 0] 27)).heap.size = w2.heap.size + 1 := by simp
  have hlo : w.heap.size + 1 < w2.heap.size := D2.hi
  clear K2 D2 BX2
  obtain ⟨sb, hsb⟩ : ∃ z, w2.heap.size = z := ⟨_, rfl⟩
  rw [hsb] at S3 hsz hlo ⊢
  generalize w2.alloc (.cells #[.int .i64 sw, .int .i64 sh, .slice none 0 0, .slice none 0 0] 27) = W3 at S3 K3 D3 BX3 hsz ⊢
  clear hsb
  have R0 : KR (sb + 1) W3 (.slice none 0 0) (cL (fun _ => c) 0) := KR.nil _ _ (by omega)
  have I0 : Ri (sb + 1) W3 (.slice none 0 0) (fl (fun _ => 65536) 0) := Ri.nil _ _ (by omega)
  go_loopw [9] (fun i wr => ∃ (k : Nat) (v2 v3 : Value), k ≤ n ∧ i = .int .i64 k ∧ C4 wr sb (.int .i64 sw) (.int .i64 sh) v2 v3 ∧ Hid (KR (sb + 1) wr v2 (cL (fun _ => c) k) ∧ Ri (sb + 1) wr v3 (fl (fun _ => 65536) k) ∧ Below sb W3 wr)) (fun i _ => n - (intOf i).toNat)
  case atStart => exact ⟨0, _, _, Nat.zero_le _, rfl, S3, ⟨R0, I0, Below.refl _ _⟩⟩
  case round =>
    clear S3 R0 I0
    obtain ⟨k, v2, v3, hk, rfl, SR, HR⟩ := hrel
    obtain ⟨RR, IR, BR⟩ := HR.out
    have KK := K3.low BR (by omega)
    have DD := D3.low BR hlo
    have k0 := KK.c0
    have k1 := KK.c1
    have k2 := KK.c2
    have k3 := KK.c3
    have s0 := SR.c0
    have s1 := SR.c1
    have s2 := SR.c2
    have s3 := SR.c3
    by_cases hkn : k < n
    · have i1 : (k : Int) < (n : Int) := by omega
      have i0 : (0 : Int) ≤ (k : Int) := by omega
      have sf := SR.f
      have YC := C4.new wr 30 (.int .i64 c.r) (.int .i64 c.g) (.int .i64 c.b) (.int .i64 c.a)
      have HLK : Hid ((cL (fun _ => c) k).length = k) := cL_len _ _
      have HSZ := SR.hi
      clear s0 s1 s3 k0 k1 k2 k3 HR
      have s0 := SR.c0
      have s1 := SR.c1
      have s3 := SR.c3
      have k0 := KK.c0
      have k1 := KK.c1
      have k2 := KK.c2
      have k3 := KK.c3
      go_wp2_with (at_builtin; refine wpList_append_col _ _ rfl rfl rfl rfl (RR.alloc (.cells #[.int .i64 c.r, .int .i64 c.g, .int .i64 c.b, .int .i64 c.a] 30)) YC (by have := HLK.out; omega) ?_)
      intro g cap w5 HK hgr
      have hro : ∀ q, v2.ownBlock = some q → sb + 1 ≤ q := fun q hq => (RR.lt q hq).1
      have B5 : Below (sb + 1) wr w5 := below_grown (alloc_b.mono (by omega)) (by simp; omega) hgr hro
      have S5 := SR.low B5 (by omega)
      have K5 := KK.low B5 (by omega)
      have I5 : Ri (sb + 1) w5 v3 (fl (fun _ => 65536) k) := (IR.alloc (.cells #[.int .i64 c.r, .int .i64 c.g, .int .i64 c.b, .int .i64 c.a] 30)).grown hgr (by
        cases e : v3.ownBlock with
        | none => exact Or.inl rfl
        | some q => exact Or.inr (fun e2 => kne IR.1 RR.1 (by decide) q e e2.symm))
      have DB5 : Below sb W3 w5 := BR.trans (B5.mono (by omega))
      clear hgr B5 RR IR BR s0 s1 s2 s3 sf k0 k1 k2 k3 YC SR KK HSZ
      have s0 := S5.c0
      have s1 := S5.c1
      have s2 := S5.c2
      have s3 := S5.c3
      have sf := S5.f
      have RK : cL (fun _ => c) (k + 1) = cL (fun _ => c) k ++ [c] := rfl
      rw [← RK] at HK
      clear RK
      rw [HLK.out] at HK ⊢
      go_upto_region 8 with fail
      have S6 := S5.s2 (.slice (some ⟨g, 0, none⟩) (k + 1) cap)
      have O6 := (Only.refl sb w5).setCell 2 (.slice (some ⟨g, 0, none⟩) (k + 1) cap)
      have K6 := K5.far sb 2 (.slice (some ⟨g, 0, none⟩) (k + 1) cap) (by omega)
      have hgb := (HK.lt g rfl).1
      have HK6 := HK.grown (only_grown O6) (Or.inr (by simp [Value.ownBlock]; omega))
      have I6 := I5.grown (only_grown O6) (by
        cases e : v3.ownBlock with
        | none => exact Or.inl rfl
        | some q => exact Or.inr (by have := (I5.lt q e).1; simp; omega))
      have DB6 := DB5.trans (O6.below (Nat.le_refl _) (by have := S5.hi; omega))
      have B06 : w5.heap.size ≤ (w5.setCell ⟨sb, 2, none⟩ (.slice (some ⟨g, 0, none⟩) (k + 1) cap)).heap.size := O6.size
      clear s0 s1 s2 s3 sf S5 K5 I5 HK DB5 O6
      generalize w5.setCell ⟨sb, 2, none⟩ (.slice (some ⟨g, 0, none⟩) (k + 1) cap) = w6 at S6 K6 HK6 I6 DB6 B06 ⊢
      have s0 := S6.c0
      have s1 := S6.c1
      have s2 := S6.c2
      have s3 := S6.c3
      have HLF : Hid ((fl (fun _ => 65536) k).length = k) := fl_len _ _
      have hro3 : ∀ q, v3.ownBlock = some q → sb + 1 ≤ q := fun q hq => (I6.lt q hq).1
      have h6s := S6.hi
      go_wp2_with (at_builtin; refine wpList_append_ri _ _ Try.underlying25 hi3 hz30 hz31 hz32 rfl rfl rfl rfl (I6.alloc (.cells #[.int .i64 65536] 3)) (ARow.one w6 65536) (by have := HLF.out; simp only [List.length_cons, List.length_nil]; omega) ?_)
      intro v' w7 HI hgr2 hown
      have B7 : Below (sb + 1) w6 w7 := below_grown (alloc_b.mono (by omega)) (by simp; omega) hgr2 hro3
      have S7 := S6.low B7 (by omega)
      have HK7 : KR (sb + 1) w7 (.slice (some ⟨g, 0, none⟩) (k + 1) cap) (cL (fun _ => c) (k + 1)) := (HK6.alloc (.cells #[.int .i64 65536] 3)).grown hgr2 (Or.inr (fun e2 => kne HK6.1 I6.1 (by decide) g rfl e2.symm))
      have DB7 : Below sb W3 w7 := DB6.trans (B7.mono (by omega))
      have RI : fl (fun _ => (65536 : Int)) (k + 1) = fl (fun _ => 65536) k ++ [65536] := rfl
      rw [← RI] at HI
      clear RI
      obtain ⟨g3, c3, rfl⟩ : ∃ g3 c3, v' = .slice (some ⟨g3, 0, none⟩) (k + 1) c3 := by
        have h2 := HI.1
        rw [fl_len] at h2
        rcases h2.2 with ⟨_, h0⟩ | ⟨g, cap, cur, rfl, _⟩
        · omega
        · exact ⟨_, _, rfl⟩
      clear s0 s1 s2 s3 S6 K6 HK6 I6 DB6 hgr2 hown B7
      have s0 := S7.c0
      have s1 := S7.c1
      have s2 := S7.c2
      have s3 := S7.c3
      have sf := S7.f
      have hg3 := (HI.lt g3 rfl).1
      have S8 := S7.s3 (.slice (some ⟨g3, 0, none⟩) (k + 1) c3)
      have O8 := (Only.refl sb w7).setCell 3 (.slice (some ⟨g3, 0, none⟩) (k + 1) c3)
      have HK8 := HK7.grown (only_grown O8) (Or.inr (by simp [Value.ownBlock]; omega))
      have HI8 := HI.grown (only_grown O8) (Or.inr (by simp [Value.ownBlock]; omega))
      have DB8 := DB7.trans (O8.below (Nat.le_refl _) (by have := S7.hi; omega))
      have HF := Hid.mk (And.intro S8 (And.intro HK8 (And.intro HI8 DB8)))
      clear HK7 HI DB7 O8 S8 HK8 HI8 DB8
      go_wp2
      go_roundw
      case rel => exact ⟨k + 1, _, _, by omega, by go_num, HF.out.1, HF.out.2⟩
      case measure => simp [intOf]; omega
    · obtain rfl : n = k := by omega
      have i1 : ¬ (n : Int) < (n : Int) := by omega
      obtain ⟨g2, c2, rfl⟩ : ∃ g2 c2, v2 = .slice (some ⟨g2, 0, none⟩) n c2 := by
        have h2 := RR.1
        rw [cL_len] at h2
        rcases h2.2 with ⟨_, h0⟩ | ⟨g, cap, cur, rfl, _⟩
        · omega
        · exact ⟨_, _, rfl⟩
      obtain ⟨g3, c3, rfl⟩ : ∃ g3 c3, v3 = .slice (some ⟨g3, 0, none⟩) n c3 := by
        have h2 := IR.1
        rw [fl_len] at h2
        rcases h2.2 with ⟨_, h0⟩ | ⟨g, cap, cur, rfl, _⟩
        · omega
        · exact ⟨_, _, rfl⟩
      have ne := kne RR.1 IR.1 (by decide)
      have l2 := RR.lt g2 rfl
      have l3 := IR.lt g3 rfl
      clear HR k0 k1 k2 k3 KK
      have x0 := DD.c0
      have x1 := DD.c1
      have x2 := DD.c2
      have x3 := DD.c3
      have xf := DD.f
      have O9 := only_set4 wr (w.heap.size + 1) (.int .i64 sw) (.int .i64 sh) (.slice (some ⟨g2, 0, none⟩) n c2) (.slice (some ⟨g3, 0, none⟩) n c3)
      have D9 := DD.put (.int .i64 sw) (.int .i64 sh) (.slice (some ⟨g2, 0, none⟩) n c2) (.slice (some ⟨g3, 0, none⟩) n c3)
      have R9 := (RR.grown (only_grown O9) (Or.inr (by simp [Value.ownBlock]; omega))).rowV
      have I9 := (IR.grown (only_grown O9) (Or.inr (by simp [Value.ownBlock]; omega))).iv
      have BB := BX3.trans (BR.mono (by omega))
      have B9 : Below w.heap.size w _ := BB.trans (O9.below (by omega) BB.size)
      have S9 := O9.size
      unfold set4 at D9 R9 I9 B9 S9
      have HF := Hid.mk (And.intro D9 (And.intro R9 (And.intro I9 (And.intro B9 S9))))
      clear R9 I9 B9 D9 O9 RR IR BR BB S9
      go_wp2
      obtain ⟨D9, R9, I9, B9, S9⟩ := HF.out
      clear x0 x1 x2 x3 xf
      have r0 := D9.c0
      have r1 := D9.c1
      have r2 := D9.c2
      have r3 := D9.c3
      exact bodyPost_ret (v := .tuple #[.agg #[.int .i64 sw, .int .i64 sh, .slice (some ⟨g2, 0, none⟩) n c2, .slice (some ⟨g3, 0, none⟩) n c3], .bool true]) (by simp [results, Try.results5, go_sem, r0, r1, r2, r3]) rfl ⟨_, rfl, ⟨_, _, rfl, R9, I9, fun q hq => by simp [Value.ownBlock] at hq; subst hq; exact ⟨by omega, Nat.lt_of_lt_of_le l2.2 S9⟩, fun q hq => by simp [Value.ownBlock] at hq; subst hq; exact ⟨by omega, Nat.lt_of_lt_of_le l3.2 S9⟩, ne⟩, B9⟩
end Go.Proofs.Ytkngjngmalogaaa
