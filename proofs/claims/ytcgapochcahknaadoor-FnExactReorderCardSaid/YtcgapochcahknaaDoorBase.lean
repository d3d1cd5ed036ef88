/- The common ground of this seat's proofs: the table of calls holds its eleven names and numbers wherever the row's list is met, and keeps them where nothing old is written; no conditions of its own. -/
import Derived.Test.YtcgapochcahknaaDoorRows
import Derived.WalkKit
import Derived.ProofKit
import Derived.OpenShut
import Derived.WalkLawsBesides
import Derived.Lib.LaidTab
namespace Go.Proofs.YtcgapochcahknaaDoor
open Go.ChangeShapes Go.WideShapes Go.ChangeAt Go.RowKit
set_option linter.unusedVariables false
theorem own : ownKnob Tryd.prog.godebug = none := by kernel_rfl
theorem gTab : Tryd.prog.globalNamed "loop.example/g00053/impl.callForms" = some 0 := by kernel_rfl
theorem gTabType : (Tryd.prog.globals[0]?).map (·.type) = some 121 := by kernel_rfl
theorem cells89 : Tryd.prog.cellsOf 121 = 22 := by kernel_rfl
theorem cells88 : Tryd.prog.cellsOf 120 = 2 := by kernel_rfl
theorem cells3 : Tryd.prog.cellsOf 3 = 1 := by kernel_rfl
theorem cells9 : Tryd.prog.cellsOf 9 = 1 := by kernel_rfl
def cellsT : Array Value := #[.string ⟨#[97, 98, 115]⟩, .int .i64 1, .string ⟨#[102, 108, 111, 97, 116]⟩, .int .i64 1, .string ⟨#[102, 109, 97]⟩, .int .i64 3, .string ⟨#[103, 114, 111, 117, 112]⟩, .int .i64 0, .string ⟨#[105, 110, 116]⟩, .int .i64 1, .string ⟨#[108, 111, 99, 97, 108]⟩, .int .i64 0, .string ⟨#[109, 97, 120]⟩, .int .i64 2, .string ⟨#[109, 105, 110]⟩, .int .i64 2, .string ⟨#[115, 105, 122, 101]⟩, .int .i64 0, .string ⟨#[115, 113, 114, 116]⟩, .int .i64 1, .string ⟨#[116, 105, 100]⟩, .int .i64 0]
theorem str_of (s : ByteArray) (l : List UInt8) (h : s.data.toList = l) : s = ⟨l.toArray⟩ := by
  obtain ⟨a⟩ := s
  subst h
  simp
theorem pair_of_trod {H : Type} {enc : TypeId × Value → H} {w : World} {base : Nat} {sp : Nat → Bool} {held : Bool} {fuel : Nat} {c0 c1 : Value} {y : DataW H × List MemPlace}
    (h : DataW.trod enc Tryd.prog w base sp held fuel 120 [c0, c1] = some y) :
    ∃ (s : ByteArray) (n : Int), c0 = .string s ∧ c1 = .int .i64 n ∧ y.1 = .agg [.lit (.string s.data.toList), .lit (.int .i64 n)] := by
  cases fuel with
  | zero => simp [DataW.trod] at h
  | succ fuel =>
    simp only [DataW.trod, Tryd.underlying120, cells88] at h
    simp only [List.length_cons, List.length_nil, if_true, Option.map_eq_some_iff, List.mapM_cons, List.mapM_nil, Option.bind_eq_bind, Option.bind_eq_some_iff, Option.pure_def, Option.some.injEq, cells3, cells9, List.drop, List.take] at h
    obtain ⟨xs, ⟨y0, h0, _, ⟨y1, h1, _, rfl, rfl⟩, rfl⟩, rfl⟩ := h
    obtain ⟨s, e0, rfl, _⟩ := DataW.trod_string Tryd.underlying9 h0
    obtain ⟨n, e1, rfl, _⟩ := DataW.trod_int Tryd.underlying3 h1
    simp only [List.cons.injEq, and_true] at e0 e1
    exact ⟨s, n, e0, e1, rfl⟩
set_option maxHeartbeats 1000000 in
theorem cells_of_laid {W : World} (h : laidMet Tryd.prog [("loop.example/g00053/impl.callForms", Rows.laid_loop_example_g00053_impl_callForms)] W) : W.var? Tryd.prog "loop.example/g00053/impl.callForms" = some cellsT := by
  obtain ⟨ps, ⟨g, t, cs, fuel, p, q, hg, ht, hvar, hd, _, _⟩, _⟩ := h
  obtain rfl := Option.some.inj (gTab.symm.trans hg)
  obtain rfl := Option.some.inj (gTabType.symm.trans ht)
  rw [hvar]
  congr 1
  obtain ⟨l⟩ := cs
  cases fuel with
  | zero => simp [DataW.trod] at hd
  | succ fuel =>
    simp only [DataW.trod, Tryd.underlying121, cells89, cells88] at hd
    split at hd
    · rename_i hl
      obtain ⟨c0, c1, c2, c3, c4, c5, c6, c7, c8, c9, c10, c11, c12, c13, c14, c15, c16, c17, c18, c19, c20, c21, rfl⟩ : ∃ c0 c1 c2 c3 c4 c5 c6 c7 c8 c9 c10 c11 c12 c13 c14 c15 c16 c17 c18 c19 c20 c21, l = [c0, c1, c2, c3, c4, c5, c6, c7, c8, c9, c10, c11, c12, c13, c14, c15, c16, c17, c18, c19, c20, c21] := by
        match l, hl with
        | [a0, a1, a2, a3, a4, a5, a6, a7, a8, a9, a10, a11, a12, a13, a14, a15, a16, a17, a18, a19, a20, a21], _ => exact ⟨a0, a1, a2, a3, a4, a5, a6, a7, a8, a9, a10, a11, a12, a13, a14, a15, a16, a17, a18, a19, a20, a21, rfl⟩
      have e : List.range 11 = [0, 1, 2, 3, 4, 5, 6, 7, 8, 9, 10] := rfl
      rw [e] at hd
      simp only [Option.map_eq_some_iff, List.mapM_cons, List.mapM_nil, Option.bind_eq_bind, Option.bind_eq_some_iff, Option.pure_def, Option.some.injEq, List.drop, List.take] at hd
      obtain ⟨xs, ⟨y0, h0, _, ⟨y1, h1, _, ⟨y2, h2, _, ⟨y3, h3, _, ⟨y4, h4, _, ⟨y5, h5, _, ⟨y6, h6, _, ⟨y7, h7, _, ⟨y8, h8, _, ⟨y9, h9, _, ⟨y10, h10, _, rfl, rfl⟩, rfl⟩, rfl⟩, rfl⟩, rfl⟩, rfl⟩, rfl⟩, rfl⟩, rfl⟩, rfl⟩, rfl⟩, hx⟩ := hd
      obtain ⟨s0, n0, rfl, rfl, e0⟩ := pair_of_trod h0
      obtain ⟨s1, n1, rfl, rfl, e1⟩ := pair_of_trod h1
      obtain ⟨s2, n2, rfl, rfl, e2⟩ := pair_of_trod h2
      obtain ⟨s3, n3, rfl, rfl, e3⟩ := pair_of_trod h3
      obtain ⟨s4, n4, rfl, rfl, e4⟩ := pair_of_trod h4
      obtain ⟨s5, n5, rfl, rfl, e5⟩ := pair_of_trod h5
      obtain ⟨s6, n6, rfl, rfl, e6⟩ := pair_of_trod h6
      obtain ⟨s7, n7, rfl, rfl, e7⟩ := pair_of_trod h7
      obtain ⟨s8, n8, rfl, rfl, e8⟩ := pair_of_trod h8
      obtain ⟨s9, n9, rfl, rfl, e9⟩ := pair_of_trod h9
      obtain ⟨s10, n10, rfl, rfl, e10⟩ := pair_of_trod h10
      simp [Rows.laid_loop_example_g00053_impl_callForms, e0, e1, e2, e3, e4, e5, e6, e7, e8, e9, e10] at hx
      obtain ⟨⟨⟨q0, rfl⟩, ⟨q1, rfl⟩, ⟨q2, rfl⟩, ⟨q3, rfl⟩, ⟨q4, rfl⟩, ⟨q5, rfl⟩, ⟨q6, rfl⟩, ⟨q7, rfl⟩, ⟨q8, rfl⟩, ⟨q9, rfl⟩, ⟨q10, rfl⟩⟩, _⟩ := hx
      obtain rfl := str_of s0 [97, 98, 115] (by simpa using q0)
      obtain rfl := str_of s1 [102, 108, 111, 97, 116] (by simpa using q1)
      obtain rfl := str_of s2 [102, 109, 97] (by simpa using q2)
      obtain rfl := str_of s3 [103, 114, 111, 117, 112] (by simpa using q3)
      obtain rfl := str_of s4 [105, 110, 116] (by simpa using q4)
      obtain rfl := str_of s5 [108, 111, 99, 97, 108] (by simpa using q5)
      obtain rfl := str_of s6 [109, 97, 120] (by simpa using q6)
      obtain rfl := str_of s7 [109, 105, 110] (by simpa using q7)
      obtain rfl := str_of s8 [115, 105, 122, 101] (by simpa using q8)
      obtain rfl := str_of s9 [115, 113, 114, 116] (by simpa using q9)
      obtain rfl := str_of s10 [116, 105, 100] (by simpa using q10)
      rfl
    · cases hd
/-- The table of calls holds its names and numbers. -/
structure Forms (w : World) : Prop where
  c0 : w.cell? ⟨0, 0, none⟩ = some (.string ⟨#[97, 98, 115]⟩)
  c1 : w.cell? ⟨0, 1, none⟩ = some (.int .i64 1)
  c2 : w.cell? ⟨0, 2, none⟩ = some (.string ⟨#[102, 108, 111, 97, 116]⟩)
  c3 : w.cell? ⟨0, 3, none⟩ = some (.int .i64 1)
  c4 : w.cell? ⟨0, 4, none⟩ = some (.string ⟨#[102, 109, 97]⟩)
  c5 : w.cell? ⟨0, 5, none⟩ = some (.int .i64 3)
  c6 : w.cell? ⟨0, 6, none⟩ = some (.string ⟨#[103, 114, 111, 117, 112]⟩)
  c7 : w.cell? ⟨0, 7, none⟩ = some (.int .i64 0)
  c8 : w.cell? ⟨0, 8, none⟩ = some (.string ⟨#[105, 110, 116]⟩)
  c9 : w.cell? ⟨0, 9, none⟩ = some (.int .i64 1)
  c10 : w.cell? ⟨0, 10, none⟩ = some (.string ⟨#[108, 111, 99, 97, 108]⟩)
  c11 : w.cell? ⟨0, 11, none⟩ = some (.int .i64 0)
  c12 : w.cell? ⟨0, 12, none⟩ = some (.string ⟨#[109, 97, 120]⟩)
  c13 : w.cell? ⟨0, 13, none⟩ = some (.int .i64 2)
  c14 : w.cell? ⟨0, 14, none⟩ = some (.string ⟨#[109, 105, 110]⟩)
  c15 : w.cell? ⟨0, 15, none⟩ = some (.int .i64 2)
  c16 : w.cell? ⟨0, 16, none⟩ = some (.string ⟨#[115, 105, 122, 101]⟩)
  c17 : w.cell? ⟨0, 17, none⟩ = some (.int .i64 0)
  c18 : w.cell? ⟨0, 18, none⟩ = some (.string ⟨#[115, 113, 114, 116]⟩)
  c19 : w.cell? ⟨0, 19, none⟩ = some (.int .i64 1)
  c20 : w.cell? ⟨0, 20, none⟩ = some (.string ⟨#[116, 105, 100]⟩)
  c21 : w.cell? ⟨0, 21, none⟩ = some (.int .i64 0)
theorem lt_of_cell {w : World} {a : Addr} {v : Value} (h : w.cell? a = some v) : a.block < w.heap.size := by
  unfold World.cell? at h
  rcases Nat.lt_or_ge a.block w.heap.size with h' | h'
  · exact h'
  · rw [Array.getElem?_eq_none h'] at h; cases h
theorem Forms.pos {w : World} (h : Forms w) : 0 < w.heap.size := lt_of_cell h.c0
theorem forms_of_laid {W : World} (h : laidMet Tryd.prog [("loop.example/g00053/impl.callForms", Rows.laid_loop_example_g00053_impl_callForms)] W) : Forms W := by
  have hv := cells_of_laid h
  exact ⟨World.var?_cell gTab hv 0, World.var?_cell gTab hv 1, World.var?_cell gTab hv 2, World.var?_cell gTab hv 3, World.var?_cell gTab hv 4, World.var?_cell gTab hv 5, World.var?_cell gTab hv 6, World.var?_cell gTab hv 7, World.var?_cell gTab hv 8, World.var?_cell gTab hv 9, World.var?_cell gTab hv 10, World.var?_cell gTab hv 11, World.var?_cell gTab hv 12, World.var?_cell gTab hv 13, World.var?_cell gTab hv 14, World.var?_cell gTab hv 15, World.var?_cell gTab hv 16, World.var?_cell gTab hv 17, World.var?_cell gTab hv 18, World.var?_cell gTab hv 19, World.var?_cell gTab hv 20, World.var?_cell gTab hv 21⟩
theorem Forms.below {w w' : World} (h : Forms w) (b : Below w.heap.size w w') : Forms w' := by
  have hp := h.pos
  exact ⟨(b.cell hp).trans h.c0, (b.cell hp).trans h.c1, (b.cell hp).trans h.c2, (b.cell hp).trans h.c3, (b.cell hp).trans h.c4, (b.cell hp).trans h.c5, (b.cell hp).trans h.c6, (b.cell hp).trans h.c7, (b.cell hp).trans h.c8, (b.cell hp).trans h.c9, (b.cell hp).trans h.c10, (b.cell hp).trans h.c11, (b.cell hp).trans h.c12, (b.cell hp).trans h.c13, (b.cell hp).trans h.c14, (b.cell hp).trans h.c15, (b.cell hp).trans h.c16, (b.cell hp).trans h.c17, (b.cell hp).trans h.c18, (b.cell hp).trans h.c19, (b.cell hp).trans h.c20, (b.cell hp).trans h.c21⟩
/-- A world for the witness: the settled one, the table holding what its initialiser lays. -/
noncomputable def laidWorld (os : Os) : World :=
  { World.holding Tryd.prog os ⟨#[], #[], []⟩ with heap := (World.holding Tryd.prog os ⟨#[], #[], []⟩).heap.modify 0 fun
      | .cells _ t frozen => .cells cellsT t frozen
      | o => o }
def tableH {H : Type} : DataW H := .agg [.agg [.lit (.string [97, 98, 115]), .lit (.int .i64 1)], .agg [.lit (.string [102, 108, 111, 97, 116]), .lit (.int .i64 1)], .agg [.lit (.string [102, 109, 97]), .lit (.int .i64 3)], .agg [.lit (.string [103, 114, 111, 117, 112]), .lit (.int .i64 0)], .agg [.lit (.string [105, 110, 116]), .lit (.int .i64 1)], .agg [.lit (.string [108, 111, 99, 97, 108]), .lit (.int .i64 0)], .agg [.lit (.string [109, 97, 120]), .lit (.int .i64 2)], .agg [.lit (.string [109, 105, 110]), .lit (.int .i64 2)], .agg [.lit (.string [115, 105, 122, 101]), .lit (.int .i64 0)], .agg [.lit (.string [115, 113, 114, 116]), .lit (.int .i64 1)], .agg [.lit (.string [116, 105, 100]), .lit (.int .i64 0)]]
theorem reads_table {H : Type} (enc : TypeId × Value → H) (W : World) (sp : Nat → Bool) : DataW.trod enc Tryd.prog W 0 sp true 4 121 cellsT.toList = some (tableH, []) := by kernel_rfl
end Go.Proofs.YtcgapochcahknaaDoor
