/- Rows of numbers that are eaten from the head on and appended to: no program's function is spoken of here. -/
import Derived.Test.YtcgapochcahknaaDoorArr
import Derived.Test.YtcgapochcahknaaDoorRds
import Derived.ArgAppend
namespace Go.Proofs.YtcgapochcahknaaDoor
open Go.ChangeShapes Go.WideShapes Go.ChangeAt Go.RowKit
set_option linter.unusedVariables false
/-- A row of a call's own, which begins somewhere in its block. -/
def Que (B : Nat) (w : World) (v : Value) (L : List Int) : Prop := ∃ g off cap, v = .slice (some ⟨g, off, none⟩) L.length cap ∧ B ≤ g ∧ g < w.heap.size ∧ L.length ≤ cap ∧ (∀ i, i < L.length → w.cell? ⟨g, off + i, none⟩ = some (.int .i64 (L.getD i 0))) ∧ ∀ i, i < cap → (w.cell? ⟨g, off + i, none⟩).isSome = true ∧ w.frozen? ⟨g, off + i, none⟩ = false
theorem Que.next {B : Nat} {w w' : World} {v : Value} {L : List Int} (h : Que B w v L) (b : Below w.heap.size w w') : Que B w' v L := by
  obtain ⟨g, off, cap, hv, hB, hg, hl, hc, hs⟩ := h
  refine ⟨g, off, cap, hv, hB, by have := b.size; omega, hl, fun i hi => (b.cell (p := ⟨g, off + i, none⟩) hg).trans (hc i hi), fun i hi => ?_⟩
  rw [b.cell (p := ⟨g, off + i, none⟩) hg, b.frozen (p := ⟨g, off + i, none⟩) hg]
  exact hs i hi
theorem Que.only {B p : Nat} {w w' : World} {v : Value} {L : List Int} (h : Que B w v L) (b : Only p w w') (hp : p < B) : Que B w' v L := by
  obtain ⟨g, off, cap, hv, hB, hg, hl, hc, hs⟩ := h
  have hb := b.block g hg (by omega)
  refine ⟨g, off, cap, hv, hB, by have := b.size; omega, hl, fun i hi => (World.cell?_of_block (w := w) (a := ⟨g, off + i, none⟩) hb).trans (hc i hi), fun i hi => ?_⟩
  rw [World.cell?_of_block (w := w) (a := ⟨g, off + i, none⟩) hb, World.frozen?_of_block (w := w) (a := ⟨g, off + i, none⟩) hb]
  exact hs i hi
/-- The first one is taken. -/
theorem Que.drop {B g off cap : Nat} {w : World} {t : Int} {L : List Int} (h : Que B w (.slice (some ⟨g, off, none⟩) (L.length + 1) cap) (t :: L)) : w.cell? ⟨g, off, none⟩ = some (.int .i64 t) ∧ Que B w (.slice (some ⟨g, off + 1, none⟩) L.length (cap - 1)) L ∧ (cap - 1 = 0 → Que B w (.slice (some ⟨g, off, none⟩) L.length (cap - 1)) L) := by
  obtain ⟨g', off', cap', hv, hB, hg, hl, hc, hs⟩ := h
  injection hv with h1 h2 h3
  injection h1 with h1
  injection h1 with h4 h5 h6
  subst h4 h5 h3
  simp only [List.length_cons] at hl hc
  refine ⟨by have := hc 0 (by omega); simpa using this, ⟨g, off + 1, cap - 1, rfl, hB, hg, by omega, fun i hi => ?_, fun i hi => ?_⟩, fun h0 => ⟨g, off, cap - 1, rfl, hB, hg, by omega, fun i hi => by omega, fun i hi => by omega⟩⟩
  · have := hc (i + 1) (by omega)
    rw [show off + 1 + i = off + (i + 1) by omega]
    simpa using this
  · rw [show off + 1 + i = off + (i + 1) by omega]
    exact hs (i + 1) (by omega)
theorem que_own {B : Nat} {w : World} {v : Value} {n : Nat} {L : List Int} (h : w.ownsRow B 3 1 v n (il L)) (hn : L.length = n) (h0 : 0 < n) : Que B w v L := by
  rcases h.2 with ⟨_, h1⟩ | ⟨g, cap, cur, hv, hb, hg, hc1, hc2, hc3, hc4⟩
  · omega
  · refine ⟨g, 0, cap, by rw [hv, hn], hb, (Array.getElem?_eq_some_iff.1 hg).1, by omega, fun i hi => ?_, fun i hi => ?_⟩
    · rw [cell_of_row w g (0 + i) cur 3 (0, 0) hg]
      have h2 : (cur.toList.take (n * 1))[i]? = (il L)[i]? := by rw [hc4]
      rw [List.getElem?_take_of_lt (by omega)] at h2
      rw [Nat.zero_add]
      simp [il, List.getD, hi] at h2 ⊢
      exact h2
    · rw [cell_of_row w g (0 + i) cur 3 (0, 0) hg, frozen_of_row w g (0 + i) cur 3 hg]
      have : i < cur.size := by omega
      simp [this]
theorem que_lit (w : World) (t : Int) : Que w.heap.size (w.alloc (.cells #[.int .i64 t] 3)) (.slice (some ⟨w.heap.size, 0, none⟩) 1 1) [t] := by
  refine ⟨w.heap.size, 0, 1, rfl, Nat.le_refl _, by simp, by simp, fun i hi => ?_, fun i hi => ?_⟩
  · have : i = 0 := by simpa using hi
    subst this
    simp
  · have : i = 0 := by omega
    subst this
    simp
theorem run_append_nil {P : Program} (w : World) (t ty e : TypeId) (i : TypeInfo) (ht : P.underlying t = some (.slice e)) (hi : P.info? e = some i) (b : Addr) (n cap : Nat) (h : n ≤ cap) : (Builtin.append_ #[t, t] ty #[.slice (some b) n cap, .slice none 0 0]).run P w = .ok (.slice (some b) n cap) w := by
  simp [Builtin.append_, run_underlying ht, sizeOf, typeInfo, hi, Builtin.lenOf, h, Builtin.firstCells, storeCells]
theorem run_append_que {P : Program} (w : World) (t ty : TypeId) (i : TypeInfo) (ht : P.underlying t = some (.slice 3)) (hi : P.info? 3 = some i) (hz : i.zero = some (.int .i64 0)) (hsize : i.size = 1) (hby : i.bytes = 8) (B : Nat) (v u : Value) (L M : List Int) (h : Que B w v L) (hu : IRow w u M) (hB : B ≤ w.heap.size) (hlen : L.length + M.length ≤ 5000) :
    ∃ v' w', (Builtin.append_ #[t, t] ty #[v, u]).run P w = .ok v' w' ∧ Que B w' v' (L ++ M) ∧ w.grownBy w' v.ownBlock := by
  obtain ⟨g, off, cap, rfl, hBg, hg, hl, hc, hs⟩ := h
  rcases hu with ⟨rfl, rfl⟩ | ⟨b, c, rfl, hcM, OM⟩
  · refine ⟨_, w, run_append_nil w t ty 3 i ht hi _ _ _ hl, ?_, ⟨rfl, rfl, rfl, Nat.le_refl _, fun _ _ _ => rfl⟩⟩
    rw [List.append_nil]
    exact ⟨g, off, cap, rfl, hBg, hg, hl, hc, hs⟩
  · have hnews : ∀ j u, (il M)[j]? = some u → w.cell? ((⟨b, 0, none⟩ : Addr).add j) = some u := fun j u hj => by
      have hjl : j < M.length := by have := (List.getElem?_eq_some_iff.1 hj).1; simpa [il] using this
      rw [show (⟨b, 0, none⟩ : Addr).add j = ⟨b, j, none⟩ by unfold Addr.add; split <;> simp_all, OM.cell j hjl]
      simp [il, hjl] at hj
      rw [← hj]
      simp [List.getD, hjl]
    have hone : ∀ u ∈ il M, u.oneCell' = true := fun u hu => by
      simp [il] at hu
      obtain ⟨x, _, rfl⟩ := hu
      rfl
    have hlenM : (il M).length = M.length := by simp [il]
    by_cases hr : L.length + M.length ≤ cap
    · have hrun := run_append_room_cells (P := P) w t ty 3 i ht hi g off L.length cap ⟨b, 0, none⟩ M.length c (il M) (by rw [hsize, hlenM, Nat.mul_one]) hnews hone hr
        (fun j hj => by rw [hsize, Nat.mul_one, show off + L.length + j = off + (L.length + j) by omega]; exact (hs _ (by omega)).1)
        (fun j hj => by rw [hsize, Nat.mul_one, show off + L.length + j = off + (L.length + j) by omega]; exact (hs _ (by omega)).2)
      rw [hsize, Nat.mul_one] at hrun
      have hth : ∀ j, j < (il M).length → (w.cell? ⟨g, off + L.length + j, none⟩).isSome = true := fun j hj => by
        rw [show off + L.length + j = off + (L.length + j) by omega]; exact (hs _ (by omega)).1
      refine ⟨_, _, hrun, ⟨g, off, cap, by rw [List.length_append], hBg, by rw [size_setC]; exact hg, by rw [List.length_append]; exact hr, fun k hk => ?_, fun k hk => ?_⟩, ⟨(only_setC g _ _ w).os, (only_setC g _ _ w).tape, (only_setC g _ _ w).output, (only_setC g _ _ w).size, fun k hk hne => (only_setC g _ _ w).block k hk (fun e => hne (by rw [e]; rfl))⟩⟩
      · rw [List.length_append] at hk
        by_cases e : k < L.length
        · rw [World.cell?_setCells_out g _ _ w ⟨g, off + k, none⟩ (fun _ _ => Or.inl (by show off + k < off + L.length; omega)), hc k e]
          simp [List.getD, e, List.getElem?_append_left]
        · have hj : k - L.length < (il M).length := by omega
          have := World.cell?_setCells_in g (il M) (off + L.length) w hth (k - L.length) hj
          rw [show off + L.length + (k - L.length) = off + k by omega] at this
          rw [this]
          have hm : k - L.length < M.length := by omega
          simp [il, List.getD, List.getElem?_append_right (Nat.le_of_not_lt e), hm]
      · rw [World.frozen?_setCells]
        exact ⟨World.isSome_setCells g _ _ w _ (hs k hk).1, (hs k hk).2⟩
    · obtain ⟨v', w', hrun, r1, r2⟩ := run_append_arg_grows (P := P) w t ty 3 i (.int .i64 0) 1 8 ht hi hz hsize hby rfl (by decide) ⟨g, off, none⟩ L.length cap (il L) (by simp [il]) (fun j u hj => by
          have hjl : j < L.length := by have := (List.getElem?_eq_some_iff.1 hj).1; simpa [il] using this
          rw [Addr.add_lit, hc j hjl]
          simp [il, hjl] at hj
          rw [← hj]
          simp [List.getD, hjl]) ⟨b, 0, none⟩ M.length c (il M) (by rw [hlenM, Nat.mul_one]) hnews (by omega) (by unfold maxLen; omega) (by omega)
      rw [← il_app] at r1
      have hQ := que_own r1 (by rw [List.length_append]) (by omega)
      obtain ⟨g', off', cap', q1, q2, q3⟩ := hQ
      exact ⟨v', w', hrun, ⟨g', off', cap', q1, by omega, q3⟩, ⟨r2.os, r2.tape, r2.output, r2.size, fun k hk _ => r2.block k hk (by simp)⟩⟩
theorem wpList_append_que {P : Program} {ops : Array Oper} {rest : List Oper} {o : Oper} {a : Act} {w : World} {Q : Exit → Act → World → Prop} (hgd : o.guard = none) (s x : Operand) (t : TypeId) (ho : o.op = .call { callee := .builtin .append, args := #[s, x], argTypes := #[t, t] }) (i : TypeInfo) (ht : P.underlying t = some (.slice 3)) (hi : P.info? 3 = some i) (hz : i.zero = some (.int .i64 0)) (hsize : i.size = 1) (hby : i.bytes = 8) (B : Nat) (v u : Value) (L M : List Int) (hs : a.eval s = v) (h : Que B w v L) (hx : a.eval x = u) (hu : IRow w u M) (hB : B ≤ w.heap.size) (hlen : L.length + M.length ≤ 5000)
    (hK : ∀ v' w', Que B w' v' (L ++ M) → w.grownBy w' v.ownBlock → wpList P ops Q rest (a.put o.dst v') w') : wpList P ops Q (o :: rest) a w := by
  refine wpList_plain hgd fun K hK' => ?_
  obtain ⟨v', w', hrun, r1, r2⟩ := run_append_que (P := P) w t o.type i ht hi hz hsize hby B v u L M h hu hB hlen
  unfold Oper.wp
  simp [execOp, ho, resolve, invoke, builtin, hs, hx, hrun, Result.andThen]
  exact hK' _ _ (hK v' w' r1 r2)
end Go.Proofs.YtcgapochcahknaaDoor
