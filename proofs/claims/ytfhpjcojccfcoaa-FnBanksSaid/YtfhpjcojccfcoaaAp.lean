/- Appends onto rows of the call's own, told of rows as they are read; steps of regions that draw their order. -/
import Derived.Test.YtfhpjcojccfcoaaUn
import Derived.Test.YtfhpjcojccfcoaaBk
import Derived.Maps.AppendAt
import Derived.Lib.AppendZeros
namespace Go.Proofs.Ytfhpjcojccfcoaa
open Go.ChangeShapes Go.WideShapes Go.ChangeAt Go.RowKit
set_option linter.unusedVariables false
theorem step_call {P : Program} {ops : Array Oper} {o : Oper} {a : Act} {w : World} {K : Act → World → Prop} {Q : Exit → Act → World → Prop} {E : Prop} (f : FuncId) (args : Array Value) (v : Value) (hgd : o.guard = none) (hrun : (execOp a.eval o).run P w = .ok (.enter f args) w) (h : Calls P f args w fun e w' => e = .returned v ∧ w' = w) (hK : K (a.put o.dst v) w) : if Region.wanted o (yielded ops a.tmps) = true then Oper.wp P o a w K Q else E := by
  have hw : Region.wanted o (yielded ops a.tmps) = true := by simp [Region.wanted, hgd]
  rw [if_pos hw]
  unfold Oper.wp
  rw [hrun, Oper.upon_enter]
  refine h.mono ?_
  rintro e w' ⟨rfl, rfl⟩
  exact hK
theorem step_callC {P : Program} {ops : Array Oper} {o : Oper} {a : Act} {w : World} {K : Act → World → Prop} {Q : Exit → Act → World → Prop} {E : Prop} (f : FuncId) (args : Array Value) (R : Value → World → World → Prop) (hgd : o.guard = none) (hrun : (execOp a.eval o).run P w = .ok (.enter f args) w) (h : Calls P f args w fun e w' => ∃ v, e = .returned v ∧ R v w w') (hK : ∀ v w', R v w w' → K (a.put o.dst v) w') : if Region.wanted o (yielded ops a.tmps) = true then Oper.wp P o a w K Q else E := by
  have hw : Region.wanted o (yielded ops a.tmps) = true := by simp [Region.wanted, hgd]
  rw [if_pos hw]
  unfold Oper.wp
  rw [hrun, Oper.upon_enter]
  refine h.mono ?_
  rintro e w' ⟨v, rfl, hR⟩
  exact hK v w' hR
theorem step_val {P : Program} {ops : Array Oper} {o : Oper} {a : Act} {w : World} {K : Act → World → Prop} {Q : Exit → Act → World → Prop} {E : Prop} (v : Value) (w' : World) (hgd : o.guard = none) (hrun : (execOp a.eval o).run P w = .ok (.value v) w') (hK : K (a.put o.dst v) w') : if Region.wanted o (yielded ops a.tmps) = true then Oper.wp P o a w K Q else E := by
  have hw : Region.wanted o (yielded ops a.tmps) = true := by simp [Region.wanted, hgd]
  rw [if_pos hw]
  unfold Oper.wp
  rw [hrun, Oper.upon_value]
  exact hK
theorem step_skip {P : Program} {ops : Array Oper} {o : Oper} {a : Act} {w : World} {K : Act → World → Prop} {Q : Exit → Act → World → Prop} {E : Prop} (w' : World) (hgd : o.guard = none) (hrun : (execOp a.eval o).run P w = .ok .skip w') (hK : K (a.put o.dst undef) w') : if Region.wanted o (yielded ops a.tmps) = true then Oper.wp P o a w K Q else E := by
  have hw : Region.wanted o (yielded ops a.tmps) = true := by simp [Region.wanted, hgd]
  rw [if_pos hw]
  unfold Oper.wp
  rw [hrun, Oper.upon_skip]
  exact hK
theorem Ri.nil (B : Nat) (w : World) (h : B ≤ w.heap.size) : Ri B w (.slice none 0 0) [] := ⟨World.ownsRow_nil _ _ _ _, h⟩
theorem grown_refl (w : World) (r : Option Nat) : w.grownBy w r := ⟨rfl, rfl, rfl, Nat.le_refl _, fun _ _ _ => rfl⟩
/-- An append of a row as it is read onto a row of the call's own. -/
theorem run_append_ri {P : Program} {t : TypeId} (ty : TypeId) {i : TypeInfo} (ht : P.underlying t = some (.slice 3)) (hi : P.info? 3 = some i) (hz : i.zero = some (.int .i64 0)) (hsize : i.size = 1) (hby : i.bytes = 8) {w : World} {B : Nat} {v X : Value} {M L : List Int} (hv : Ri B w v M) (hX : ARow w X L) (hl : M.length + L.length ≤ 100000) :
    ∃ v' w', (Builtin.append_ #[t, t] ty #[v, X]).run P w = .ok v' w' ∧ Ri B w' v' (M ++ L) ∧ w.grownBy w' v.ownBlock ∧ (v'.ownBlock = v.ownBlock ∨ v'.ownBlock = some w.heap.size) := by
  obtain ⟨ad, c, rfl, hc⟩ := hX
  by_cases e : L = []
  · subst e
    obtain ⟨au, cu, hu, hcu⟩ : ∃ au cu, v = .slice au M.length cu ∧ M.length ≤ cu := by
      rcases hv.1.2 with ⟨hv, h0⟩ | ⟨gg, cap, cur, hv, _, _, h3, _⟩
      · exact ⟨none, 0, by rw [hv, h0], by omega⟩
      · exact ⟨_, _, hv, h3⟩
    refine ⟨v, w, ?_, by rw [List.append_nil]; exact hv, grown_refl _ _, Or.inl rfl⟩
    rw [hu]
    exact run_append_none w t ty 3 i ht hi au ad M.length cu c hcu
  · have hp := List.length_pos_iff.2 e
    obtain ⟨g, o, rfl, _⟩ := hc 0 hp
    have hcell : ∀ j, j < L.length → w.cell? ⟨g, o + j, none⟩ = some (.int .i64 (L.getD j 0)) := fun j hj => by
      obtain ⟨g', o', h1, h2⟩ := hc j hj
      injection h1 with h1
      injection h1 with h1 h3
      subst h1; subst h3
      exact h2
    obtain ⟨v', w', h1, h2, h3, h4, h5⟩ := run_append_own_at (P := P) w B t ty 3 i (.int .i64 0) 1 8 ht hi hz hsize hby rfl (by decide) v M.length (il M) hv.1 ⟨g, o, none⟩ L.length c (il L) (il_len L) (il_cells hcell) (il_one L) (by unfold maxLen; omega) (by omega) hv.2
    refine ⟨v', w', h1, ⟨?_, Nat.le_trans hv.2 h3.size⟩, h3, h5⟩
    rw [List.length_append, il_app]
    exact h2
/-- .. in a walk: it stops behind the append. -/
theorem wpList_append_ri {P : Program} {ops : Array Oper} {rest : List Oper} {o : Oper} {a : Act} {w : World} {Q : Exit → Act → World → Prop} (s x : Operand) {t : TypeId} {i : TypeInfo} (ht : P.underlying t = some (.slice 3)) (hi : P.info? 3 = some i) (hz : i.zero = some (.int .i64 0)) (hsize : i.size = 1) (hby : i.bytes = 8) (hgd : o.guard = Option.none) (ho : o.op = .call { callee := .builtin .append, args := #[s, x], argTypes := #[t, t] }) {B : Nat} {v X : Value} {M L : List Int} (hs : a.eval s = v) (hx : a.eval x = X) (hv : Ri B w v M) (hX : ARow w X L) (hl : M.length + L.length ≤ 100000)
    (h : ∀ v' w', Ri B w' v' (M ++ L) → w.grownBy w' v.ownBlock → (v'.ownBlock = v.ownBlock ∨ v'.ownBlock = some w.heap.size) → wpList P ops Q rest (a.put o.dst v') w') : wpList P ops Q (o :: rest) a w := by
  obtain ⟨v', w', h1, h2, h3, h4⟩ := run_append_ri (P := P) o.type ht hi hz hsize hby hv hX hl
  exact Lib.wpList_append_run w hgd s x t t ho v X hs hx v' w' h1 (h v' w' h2 h3 h4)
theorem step_app {P : Program} {ops : Array Oper} {o : Oper} {a : Act} {w : World} {K : Act → World → Prop} {Q : Exit → Act → World → Prop} {E : Prop} (s x : Operand) (t : TypeId) (vs vx v' : Value) (w' : World) (hgd : o.guard = none) (ho : o.op = .call { callee := .builtin .append, args := #[s, x], argTypes := #[t, t] }) (hs : a.eval s = vs) (hx : a.eval x = vx) (hr : (Builtin.append_ #[t, t] o.type #[vs, vx]).run P w = .ok v' w') (hK : K (a.put o.dst v') w') : if Region.wanted o (yielded ops a.tmps) = true then Oper.wp P o a w K Q else E := by
  have hw : Region.wanted o (yielded ops a.tmps) = true := by simp [Region.wanted, hgd]
  rw [if_pos hw]
  exact Lib.wp_append_run w s x t t ho vs vx hs hx v' w' hr hK
theorem ARow.take {w : World} {ad : Option Addr} {n c : Nat} {L : List Int} (h : ARow w (.slice ad n c) L) (k : Nat) (hk : k ≤ n) (c' : Nat) : ARow w (.slice ad k c') (L.take k) := by
  obtain ⟨ad', c2, h1, h2⟩ := h
  injection h1 with h1 h3 h4
  subst h1; subst h3; subst h4
  have hl : (L.take k).length = k := by rw [List.length_take]; omega
  refine ⟨ad, c', by rw [hl], fun i hi => ?_⟩
  rw [hl] at hi
  obtain ⟨g, o, h5, h6⟩ := h2 i (by omega)
  exact ⟨g, o, h5, by rw [h6]; simp [List.getD, hi]⟩
theorem ARow.drop {w : World} {g o n c : Nat} {L : List Int} (h : ARow w (.slice (some ⟨g, o, none⟩) n c) L) (k : Nat) (c' : Nat) : ARow w (.slice (some ⟨g, o + k, none⟩) (n - k) c') (L.drop k) := by
  obtain ⟨ad', c2, h1, h2⟩ := h
  injection h1 with h1 h3 h4
  subst h1; subst h3; subst h4
  refine ⟨_, c', by rw [List.length_drop], fun i hi => ?_⟩
  rw [List.length_drop] at hi
  obtain ⟨g', o', h5, h6⟩ := h2 (k + i) (by omega)
  injection h5 with h5
  injection h5 with h5 h7
  subst h5; subst h7
  exact ⟨g, o + k, rfl, by rw [Nat.add_assoc, h6]; simp [List.getD]⟩
theorem ARow.none (w : World) (ad : Option Addr) (c : Nat) {L : List Int} (h : L = []) : ARow w (.slice ad 0 c) L := by
  subst h
  exact ⟨ad, c, rfl, fun i hi => absurd hi (by simp)⟩
theorem ARow.one (w : World) (x : Int) : ARow (w.alloc (.cells #[.int .i64 x] 3)) (.slice (some ⟨w.heap.size, 0, Option.none⟩) 1 1) [x] := by
  refine ⟨_, 1, rfl, fun i hi => ⟨w.heap.size, 0, rfl, ?_⟩⟩
  obtain rfl : i = 0 := by simpa using hi
  simp
theorem ARow.grown {w w' : World} {v : Value} {L : List Int} {r : Option Nat} (h : ARow w v L) (k : w.grownBy w' r) (hr : 0 < L.length → v.ownBlock ≠ r) : ARow w' v L := by
  obtain ⟨ad, c, h1, h2⟩ := h
  refine ⟨ad, c, h1, fun i hi => ?_⟩
  obtain ⟨g, o, h3, h4⟩ := h2 i hi
  refine ⟨g, o, h3, ?_⟩
  rw [World.cell?_of_block (w := w) (k.block g (World.block_lt_of_cell? _ _ h4) (fun e => hr (by omega) (by rw [h1, h3]; exact e)))]
  exact h4
theorem Ri.arow {B : Nat} {w : World} {v : Value} {L : List Int} (h : Ri B w v L) : ARow w v L := by
  rcases ri_cases h with ⟨rfl, rfl⟩ | ⟨g, c, rfl, _, _, hc⟩
  · exact ARow.none _ _ _ rfl
  · exact ⟨_, c, rfl, fun i hi => ⟨g, 0, rfl, by rw [Nat.zero_add]; exact hc i hi⟩⟩
theorem Ri.empty (B : Nat) (w : World) (h : B ≤ w.heap.size) : Ri B (w.alloc (.cells #[] 3)) (.slice (some ⟨w.heap.size, 0, Option.none⟩) 0 0) [] := by
  refine ⟨⟨rfl, Or.inr ⟨w.heap.size, 0, #[], rfl, h, heap_alloc_new w _, Nat.le_refl _, Nat.zero_le _, rfl, rfl⟩⟩, ?_⟩
  rw [World.size_alloc]; omega
theorem Ri.up {B C : Nat} {w : World} {v : Value} {L : List Int} (h : Ri C w v L) (hB : B ≤ C) : Ri B w v L := ri_of h.1 hB h.2 rfl rfl
end Go.Proofs.Ytfhpjcojccfcoaa
