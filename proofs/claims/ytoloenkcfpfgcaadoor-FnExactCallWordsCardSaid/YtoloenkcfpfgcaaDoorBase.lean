/- The common ground of this seat's proofs: the table of float forms holds its eight numbers wherever the row's list is met, and keeps them where nothing old is written; no conditions of its own. -/
import Derived.Test.YtoloenkcfpfgcaaDoorRows
import Derived.WalkKit
import Derived.ProofKit
import Derived.OpenShut
import Derived.WalkLawsBesides
import Derived.Laws.BitsAll
import Derived.Lib.LaidTab
namespace Go.Proofs.YtoloenkcfpfgcaaDoor
open Go.ChangeShapes Go.WideShapes Go.ChangeAt Go.RowKit

theorem own : ownKnob Tryd.prog.godebug = none := by kernel_rfl
theorem gTab : Tryd.prog.globalNamed "loop.example/g00053/impl.floatForms" = some 1 := by kernel_rfl
theorem gTabType : (Tryd.prog.globals[1]?).map (·.type) = some 42 := by kernel_rfl
theorem cells50 : Tryd.prog.cellsOf 42 = 8 := by kernel_rfl
theorem cells49 : Tryd.prog.cellsOf 41 = 4 := by kernel_rfl
theorem cells3 : Tryd.prog.cellsOf 3 = 1 := by kernel_rfl
theorem cells23 : Tryd.prog.cellsOf 23 = 1 := by kernel_rfl

def cells8 : Array Value := #[.int .i64 23, .int .i64 (-149), .int .u32 2147483648, .int .u32 2139095039, .int .i64 10, .int .i64 (-24), .int .u32 32768, .int .u32 31743]

theorem int_of_trod {H : Type} {enc : TypeId × Value → H} {P : Program} {w : World} {base : Nat} {sp : Nat → Bool} {held : Bool} {fuel : Nat} {t : TypeId} {k : IntKind} {c : Value} {y : DataW H × List MemPlace}
    (ht : P.underlying t = some (.int k)) (h : DataW.trod enc P w base sp held fuel t [c] = some y) : ∃ n, c = .int k n ∧ y = (.lit (.int k n), []) := by
  cases fuel with
  | zero => simp [DataW.trod] at h
  | succ fuel =>
    cases c <;> simp [DataW.trod, ht] at h
    rename_i k' n
    obtain ⟨⟨rfl, _⟩, rfl⟩ := h
    exact ⟨n, rfl, rfl⟩

theorem form_of_trod {H : Type} {enc : TypeId × Value → H} {w : World} {base : Nat} {sp : Nat → Bool} {held : Bool} {fuel : Nat} {c0 c1 c2 c3 : Value} {y : DataW H × List MemPlace}
    (h : DataW.trod enc Tryd.prog w base sp held fuel 41 [c0, c1, c2, c3] = some y) :
    ∃ n0 n1 n2 n3, c0 = .int .i64 n0 ∧ c1 = .int .i64 n1 ∧ c2 = .int .u32 n2 ∧ c3 = .int .u32 n3 ∧ y.1 = .agg [.lit (.int .i64 n0), .lit (.int .i64 n1), .lit (.int .u32 n2), .lit (.int .u32 n3)] := by
  cases fuel with
  | zero => simp [DataW.trod] at h
  | succ fuel =>
    simp only [DataW.trod, Tryd.underlying41, cells49] at h
    simp only [List.length_cons, List.length_nil, if_true, Option.map_eq_some_iff, List.mapM_cons, List.mapM_nil, Option.bind_eq_bind, Option.bind_eq_some_iff, Option.pure_def, Option.some.injEq, cells3, cells23, List.drop, List.take] at h
    obtain ⟨xs, ⟨y0, h0, _, ⟨y1, h1, _, ⟨y2, h2, _, ⟨y3, h3, _, rfl, rfl⟩, rfl⟩, rfl⟩, rfl⟩, rfl⟩ := h
    obtain ⟨n0, rfl, rfl⟩ := int_of_trod Tryd.underlying3 h0
    obtain ⟨n1, rfl, rfl⟩ := int_of_trod Tryd.underlying3 h1
    obtain ⟨n2, rfl, rfl⟩ := int_of_trod Tryd.underlying23 h2
    obtain ⟨n3, rfl, rfl⟩ := int_of_trod Tryd.underlying23 h3
    exact ⟨n0, n1, n2, n3, rfl, rfl, rfl, rfl, rfl⟩

theorem cells_of_laid {W : World} (h : laidMet Tryd.prog [("loop.example/g00053/impl.floatForms", Rows.laid_loop_example_g00053_impl_floatForms), ("loop.example/g00053/impl.callForms", Rows.laid_loop_example_g00053_impl_callForms)] W) : W.var? Tryd.prog "loop.example/g00053/impl.floatForms" = some cells8 := by
  obtain ⟨ps, ⟨g, t, cs, fuel, p, q, hg, ht, hvar, hd, _, _⟩, _⟩ := h
  obtain rfl := Option.some.inj (gTab.symm.trans hg)
  obtain rfl := Option.some.inj (gTabType.symm.trans ht)
  rw [hvar]
  congr 1
  obtain ⟨l⟩ := cs
  cases fuel with
  | zero => simp [DataW.trod] at hd
  | succ fuel =>
    simp only [DataW.trod, Tryd.underlying42, cells50, cells49] at hd
    split at hd
    · rename_i hl
      obtain ⟨c0, c1, c2, c3, c4, c5, c6, c7, rfl⟩ : ∃ c0 c1 c2 c3 c4 c5 c6 c7, l = [c0, c1, c2, c3, c4, c5, c6, c7] := by
        match l, hl with
        | [a, b, c, d, e, f, g, h], _ => exact ⟨a, b, c, d, e, f, g, h, rfl⟩
      have e : List.range 2 = [0, 1] := rfl
      rw [e] at hd
      simp only [Option.map_eq_some_iff, List.mapM_cons, List.mapM_nil, Option.bind_eq_bind, Option.bind_eq_some_iff, Option.pure_def, Option.some.injEq, List.drop, List.take] at hd
      obtain ⟨xs, ⟨y0, h0, _, ⟨y1, h1, _, rfl, rfl⟩, rfl⟩, hx⟩ := hd
      obtain ⟨n0, n1, n2, n3, rfl, rfl, rfl, rfl, e0⟩ := form_of_trod h0
      obtain ⟨n4, n5, n6, n7, rfl, rfl, rfl, rfl, e1⟩ := form_of_trod h1
      simp [Rows.laid_loop_example_g00053_impl_floatForms, e0, e1] at hx
      obtain ⟨⟨⟨rfl, rfl, rfl, rfl⟩, ⟨rfl, rfl, rfl, rfl⟩⟩, _⟩ := hx
      rfl
    · cases hd

/-- The table of float forms holds its numbers. -/
structure Forms (w : World) : Prop where
  c0 : w.cell? ⟨1, 0, none⟩ = some (.int .i64 23)
  c1 : w.cell? ⟨1, 1, none⟩ = some (.int .i64 (-149))
  c2 : w.cell? ⟨1, 2, none⟩ = some (.int .u32 2147483648)
  c3 : w.cell? ⟨1, 3, none⟩ = some (.int .u32 2139095039)
  c4 : w.cell? ⟨1, 4, none⟩ = some (.int .i64 10)
  c5 : w.cell? ⟨1, 5, none⟩ = some (.int .i64 (-24))
  c6 : w.cell? ⟨1, 6, none⟩ = some (.int .u32 32768)
  c7 : w.cell? ⟨1, 7, none⟩ = some (.int .u32 31743)

theorem lt_of_cell {w : World} {a : Addr} {v : Value} (h : w.cell? a = some v) : a.block < w.heap.size := by
  unfold World.cell? at h
  rcases Nat.lt_or_ge a.block w.heap.size with h' | h'
  · exact h'
  · rw [Array.getElem?_eq_none h'] at h; cases h

theorem Forms.pos {w : World} (h : Forms w) : 1 < w.heap.size := lt_of_cell h.c0

theorem forms_of_laid {W : World} (h : laidMet Tryd.prog [("loop.example/g00053/impl.floatForms", Rows.laid_loop_example_g00053_impl_floatForms), ("loop.example/g00053/impl.callForms", Rows.laid_loop_example_g00053_impl_callForms)] W) : Forms W := by
  have hv := cells_of_laid h
  exact ⟨World.var?_cell gTab hv 0, World.var?_cell gTab hv 1, World.var?_cell gTab hv 2, World.var?_cell gTab hv 3, World.var?_cell gTab hv 4, World.var?_cell gTab hv 5, World.var?_cell gTab hv 6, World.var?_cell gTab hv 7⟩

theorem Forms.below {w w' : World} (h : Forms w) (b : Below w.heap.size w w') : Forms w' := by
  have hp := h.pos
  exact ⟨(b.cell hp).trans h.c0, (b.cell hp).trans h.c1, (b.cell hp).trans h.c2, (b.cell hp).trans h.c3, (b.cell hp).trans h.c4, (b.cell hp).trans h.c5, (b.cell hp).trans h.c6, (b.cell hp).trans h.c7⟩

theorem bcell {W w1 : World} (hb : Below W.heap.size W w1) : (∀ b o, b < W.heap.size → w1.cell? ⟨b, o, none⟩ = W.cell? ⟨b, o, none⟩) ∧ (∀ b o, b < W.heap.size → w1.frozen? ⟨b, o, none⟩ = W.frozen? ⟨b, o, none⟩) :=
  ⟨fun b o h => hb.cell (p := ⟨b, o, none⟩) h, fun b o h => hb.frozen (p := ⟨b, o, none⟩) h⟩

/-- A world for the witness: the settled one, the table holding what its initialiser lays. -/
noncomputable def laidWorld (os : Os) : World :=
  { World.holding Tryd.prog os ⟨#[], #[], []⟩ with heap := (World.holding Tryd.prog os ⟨#[], #[], []⟩).heap.modify 1 fun
      | .cells _ t frozen => .cells cells8 t frozen
      | o => o }

def tableH {H : Type} : DataW H := .agg [.agg [.lit (.int .i64 23), .lit (.int .i64 (-149)), .lit (.int .u32 2147483648), .lit (.int .u32 2139095039)], .agg [.lit (.int .i64 10), .lit (.int .i64 (-24)), .lit (.int .u32 32768), .lit (.int .u32 31743)]]
theorem reads_table {H : Type} (enc : TypeId × Value → H) (W : World) (sp : Nat → Bool) : DataW.trod enc Tryd.prog W 0 sp true 4 42 cells8.toList = some (tableH, []) := by kernel_rfl
end Go.Proofs.YtoloenkcfpfgcaaDoor
