/- Proved: for every list of instructions the law FnExactCodeText returns true (CodeText answers as its model, and writes into no argument) and the argument reads afterwards as before; conditions (a tied card): the tables of calls and of ops' names and the library's tables start as the text of the program lays them. -/
import Derived.Test.YtdhhafmodkodbaaDoorRows
import Derived.Test.YtdhhafmodkodbaaDoorCtm
import Derived.Test.YtdhhafmodkodbaaDoorCti
import Derived.LaidLaws
import Derived.Stop.LaidErr
import Derived.Lib.LaidTab
import Derived.Test.YtdhhafmodkodbaaDoorTie
import Derived.Test.YtdhhafmodkodbaaDoorCards
import Derived.OpenShut
import Derived.ChangeMaps5
import Derived.SevenTiedAt
namespace Go.Proofs.YtdhhafmodkodbaaDoor.fnExactCodeText
open Go.ChangeShapes Go.WideShapes Go.ChangeAt Go.RowKit
set_option linter.unusedVariables false
theorem laidOut : laidOutB Tryd.prog = true := by kernel_rfl
theorem word_of {x : Int} (h : (Lit.int .u32 x).wf = true) : 0 ≤ x ∧ x < 4294967296 := by
  simp [Lit.wf] at h
  exact ⟨h.1, Int.lt_add_one_of_le h.2⟩
set_option maxRecDepth 100000 in
theorem sz (a : Option Addr) (n cap : Nat) (w : World) (hn : n ≤ 9223372036854775807) : Calls Tryd.prog 4 #[.slice a n cap, .int .i64 1048576] w fun r w' => (∃ z : Int, r = .returned (.int .i64 z) ∧ (z < 0 ∨ 0 ≤ z ∧ n ≤ 1048576)) ∧ w' = w := by
  by_cases big : 1048576 < n
  · have h : (1048576 : Int) - (n : Int) < 0 := by omega
    go_enter Tryd.func4, Tryd.ntmps4
    go_wp2
    go_ret
    exact ⟨⟨-1, rfl, Or.inl (by decide)⟩, rfl⟩
  · have h : 0 ≤ (1048576 : Int) - (n : Int) := by omega
    go_enter Tryd.func4, Tryd.ntmps4
    go_wp2
    go_ret
    exact ⟨⟨_, rfl, Or.inr ⟨h, by omega⟩⟩, rfl⟩
set_option maxHeartbeats 4000000 in
set_option maxRecDepth 100000 in
theorem walk (w : World) (G : Env w) (s0 : Option Addr) (n0 c0 : Nat) (O D A B C X : Nat → Int) (m0 : n0 ≤ 9223372036854775807) (A0 : ArgI w s0 n0 O D A B C X) (x0 : ∀ i, 0 ≤ X i ∧ X i < 4294967296) :
    Calls Tryd.prog 3 #[.slice s0 n0 c0] w fun e w' => e = .returned (.bool true) ∧ Below w.heap.size w w' := by
  have HS : Hid (Calls Tryd.prog 4 #[.slice s0 n0 c0, .int .i64 1048576] w fun r w' => (∃ z : Int, r = .returned (.int .i64 z) ∧ (z < 0 ∨ 0 ≤ z ∧ n0 ≤ 1048576)) ∧ w' = w) := sz s0 n0 c0 w m0
  have HT : Hid (∀ w', Below w.heap.size w w' → n0 ≤ 1048576 → Calls Tryd.prog 6 #[.slice s0 n0 c0] w' fun r w'' => r = .returned (.slice (some ⟨w'.heap.size, 0, none⟩) n0 n0) ∧ RowI w'' w'.heap.size n0 O D A B C X ∧ Below w'.heap.size w' w'') := fun w' b hn => argToI (A0.next b) c0 hn
  have HF : Hid (∀ w', Below w.heap.size w w' → Env w') := fun w' b => G.next b
  have HX : Wds X n0 := fun i _ => x0 i
  clear A0 x0 G
  go_enter Tryd.func3, Tryd.ntmps3
  go_wp2_with (go_at_call 4; refine HS.out.mono ?_)
  rintro e w1 ⟨⟨z, rfl, hz⟩, hw⟩
  subst w1
  by_cases z0 : z < 0
  · go_wp2
    go_ret
    exact ⟨rfl, Below.refl _ _⟩
  obtain ⟨_, hn⟩ := hz.resolve_left z0
  clear hz
  have H13' : ∀ a w', RowI w' a n0 O D A B C X → Calls Tryd.prog 5 #[.slice (some ⟨a, 0, none⟩) n0 n0] w' fun e w'' => e = .returned (.tuple #[.string (ctS O D A B C X n0), .bool (goodC O D A B C X n0)]) ∧ Below w'.heap.size w' w'' := fun a w' R => code13 n0 a n0 O D A B C X w' R HX hn
  have H15' : ∀ a w', Env w' → RowI w' a n0 O D A B C X → Calls Tryd.prog 7 #[.slice (some ⟨a, 0, none⟩) n0 n0] w' fun e w'' => e = .returned (.tuple #[.string (ctS O D A B C X n0), .bool (goodC O D A B C X n0)]) ∧ Below w'.heap.size w' w'' := fun a w' g R => code15 n0 a n0 O D A B C X w' g R HX hn
  generalize ctS O D A B C X n0 = S at H13' H15'
  generalize goodC O D A B C X n0 = GG at H13' H15'
  have H13 : Hid (∀ a w', RowI w' a n0 O D A B C X → Calls Tryd.prog 5 #[.slice (some ⟨a, 0, none⟩) n0 n0] w' fun e w'' => e = .returned (.tuple #[.string S, .bool GG]) ∧ Below w'.heap.size w' w'') := H13'
  have H15 : Hid (∀ a w', Env w' → RowI w' a n0 O D A B C X → Calls Tryd.prog 7 #[.slice (some ⟨a, 0, none⟩) n0 n0] w' fun e w'' => e = .returned (.tuple #[.string S, .bool GG]) ∧ Below w'.heap.size w' w'') := H15'
  clear H13' H15'
  cases GG
  all_goals
    go_wp2_with (first | (go_at_call 6; refine (HT.out w (Below.refl _ _) hn).mono ?_; rintro e w2 ⟨rfl, X2, B2⟩) | (go_at_call 5; refine (H13.out w.heap.size w2 X2).mono ?_; rintro e w3 ⟨rfl, B3⟩))
    have B13 : Below w.heap.size w w3 := B2.trans (B3.mono B2.size)
    go_wp2_with (first | (go_at_call 6; refine (HT.out w3 B13 hn).mono ?_; rintro e w4 ⟨rfl, X4, B4⟩) | (go_at_call 7; refine (H15.out w3.heap.size w4 (HF.out _ (B13.trans (B4.mono B13.size))) X4).mono ?_; rintro e w5 ⟨rfl, B5⟩))
    have B15 : Below w.heap.size w w5 := (B13.trans (B4.mono B13.size)).trans (B5.mono (by have := B13.size; have := B4.size; omega))
    have X5 := X4.next B5
    go_wp2_with (first | (go_at_call 6; refine (HT.out w5 B15 hn).mono ?_; rintro e w6 ⟨rfl, X6, B6⟩) | (go_at_call 8; refine (eqRowI (X5.next B6) X6 n0 n0 hn).mono ?_; rintro e w7 ⟨rfl, B7⟩))
    go_ret
    exact ⟨rfl, (B15.trans (B6.mono B15.size)).trans (B7.mono (by have := B15.size; have := B6.size; omega))⟩

theorem gNam : Tryd.prog.globalNamed "loop.example/g00053/impl.opNames" = some 0 := by kernel_rfl
theorem gNamType : (Tryd.prog.globals[0]?).map (·.type) = some 48 := by kernel_rfl
theorem cells55 : Tryd.prog.cellsOf 48 = 14 := by kernel_rfl
def cellsN : Array Value := #[.string ⟨#[]⟩, .string ⟨#[99, 111, 110, 115, 116]⟩, .string ⟨#[109, 111, 118, 101]⟩, .string ⟨#[111, 112]⟩, .string ⟨#[99, 97, 108, 108]⟩, .string ⟨#[105, 110]⟩, .string ⟨#[108, 111, 97, 100]⟩, .string ⟨#[115, 116, 111, 114, 101]⟩, .string ⟨#[106, 117, 109, 112]⟩, .string ⟨#[122, 101, 114, 111]⟩, .string ⟨#[98, 97, 114, 114, 105, 101, 114]⟩, .string ⟨#[101, 110, 100]⟩, .string ⟨#[110, 111, 116]⟩, .string ⟨#[110, 101, 103]⟩]
set_option maxRecDepth 100000 in
set_option maxHeartbeats 4000000 in
theorem cells_of_names {W : World} {r : List (String × DataW Unit)} (h : laidMet Tryd.prog (("loop.example/g00053/impl.opNames", Rows.laid_loop_example_g00053_impl_opNames) :: r) W) : W.var? Tryd.prog "loop.example/g00053/impl.opNames" = some cellsN := by
  obtain ⟨ps, ⟨g, t, cs, fuel, p, q, hg, ht, hvar, hd, _, _⟩, _⟩ := h
  obtain rfl := Option.some.inj (gNam.symm.trans hg)
  obtain rfl := Option.some.inj (gNamType.symm.trans ht)
  rw [hvar]
  congr 1
  obtain ⟨l⟩ := cs
  obtain ⟨xs, m, rfl, hx, hlen, hxl, hel⟩ := DataW.trod_array Tryd.underlying48 hd
  rw [cells55] at hlen
  rw [cells9] at hel
  match l, hlen, xs, hxl with
  | [c0, c1, c2, c3, c4, c5, c6, c7, c8, c9, c10, c11, c12, c13], _, [y0, y1, y2, y3, y4, y5, y6, y7, y8, y9, y10, y11, y12, y13], _ =>
    have k0 := hel 0 (by decide)
    simp at k0
    obtain ⟨s0, e0, z0, _⟩ := DataW.trod_string Tryd.underlying9 k0
    simp only [List.cons.injEq, and_true] at e0
    subst e0 z0
    have k1 := hel 1 (by decide)
    simp at k1
    obtain ⟨s1, e1, z1, _⟩ := DataW.trod_string Tryd.underlying9 k1
    simp only [List.cons.injEq, and_true] at e1
    subst e1 z1
    have k2 := hel 2 (by decide)
    simp at k2
    obtain ⟨s2, e2, z2, _⟩ := DataW.trod_string Tryd.underlying9 k2
    simp only [List.cons.injEq, and_true] at e2
    subst e2 z2
    have k3 := hel 3 (by decide)
    simp at k3
    obtain ⟨s3, e3, z3, _⟩ := DataW.trod_string Tryd.underlying9 k3
    simp only [List.cons.injEq, and_true] at e3
    subst e3 z3
    have k4 := hel 4 (by decide)
    simp at k4
    obtain ⟨s4, e4, z4, _⟩ := DataW.trod_string Tryd.underlying9 k4
    simp only [List.cons.injEq, and_true] at e4
    subst e4 z4
    have k5 := hel 5 (by decide)
    simp at k5
    obtain ⟨s5, e5, z5, _⟩ := DataW.trod_string Tryd.underlying9 k5
    simp only [List.cons.injEq, and_true] at e5
    subst e5 z5
    have k6 := hel 6 (by decide)
    simp at k6
    obtain ⟨s6, e6, z6, _⟩ := DataW.trod_string Tryd.underlying9 k6
    simp only [List.cons.injEq, and_true] at e6
    subst e6 z6
    have k7 := hel 7 (by decide)
    simp at k7
    obtain ⟨s7, e7, z7, _⟩ := DataW.trod_string Tryd.underlying9 k7
    simp only [List.cons.injEq, and_true] at e7
    subst e7 z7
    have k8 := hel 8 (by decide)
    simp at k8
    obtain ⟨s8, e8, z8, _⟩ := DataW.trod_string Tryd.underlying9 k8
    simp only [List.cons.injEq, and_true] at e8
    subst e8 z8
    have k9 := hel 9 (by decide)
    simp at k9
    obtain ⟨s9, e9, z9, _⟩ := DataW.trod_string Tryd.underlying9 k9
    simp only [List.cons.injEq, and_true] at e9
    subst e9 z9
    have k10 := hel 10 (by decide)
    simp at k10
    obtain ⟨s10, e10, z10, _⟩ := DataW.trod_string Tryd.underlying9 k10
    simp only [List.cons.injEq, and_true] at e10
    subst e10 z10
    have k11 := hel 11 (by decide)
    simp at k11
    obtain ⟨s11, e11, z11, _⟩ := DataW.trod_string Tryd.underlying9 k11
    simp only [List.cons.injEq, and_true] at e11
    subst e11 z11
    have k12 := hel 12 (by decide)
    simp at k12
    obtain ⟨s12, e12, z12, _⟩ := DataW.trod_string Tryd.underlying9 k12
    simp only [List.cons.injEq, and_true] at e12
    subst e12 z12
    have k13 := hel 13 (by decide)
    simp at k13
    obtain ⟨s13, e13, z13, _⟩ := DataW.trod_string Tryd.underlying9 k13
    simp only [List.cons.injEq, and_true] at e13
    subst e13 z13
    simp [Rows.laid_loop_example_g00053_impl_opNames] at hx
    obtain ⟨⟨q0, q1, q2, q3, q4, q5, q6, q7, q8, q9, q10, q11, q12, q13⟩, _⟩ := hx
    obtain rfl := str_of s0 [] (by simpa using q0.symm)
    obtain rfl := str_of s1 [99, 111, 110, 115, 116] (by simpa using q1.symm)
    obtain rfl := str_of s2 [109, 111, 118, 101] (by simpa using q2.symm)
    obtain rfl := str_of s3 [111, 112] (by simpa using q3.symm)
    obtain rfl := str_of s4 [99, 97, 108, 108] (by simpa using q4.symm)
    obtain rfl := str_of s5 [105, 110] (by simpa using q5.symm)
    obtain rfl := str_of s6 [108, 111, 97, 100] (by simpa using q6.symm)
    obtain rfl := str_of s7 [115, 116, 111, 114, 101] (by simpa using q7.symm)
    obtain rfl := str_of s8 [106, 117, 109, 112] (by simpa using q8.symm)
    obtain rfl := str_of s9 [122, 101, 114, 111] (by simpa using q9.symm)
    obtain rfl := str_of s10 [98, 97, 114, 114, 105, 101, 114] (by simpa using q10.symm)
    obtain rfl := str_of s11 [101, 110, 100] (by simpa using q11.symm)
    obtain rfl := str_of s12 [110, 111, 116] (by simpa using q12.symm)
    obtain rfl := str_of s13 [110, 101, 103] (by simpa using q13.symm)
    rfl
def namesH {H : Type} : DataW H := .agg [.lit (.string []), .lit (.string [99, 111, 110, 115, 116]), .lit (.string [109, 111, 118, 101]), .lit (.string [111, 112]), .lit (.string [99, 97, 108, 108]), .lit (.string [105, 110]), .lit (.string [108, 111, 97, 100]), .lit (.string [115, 116, 111, 114, 101]), .lit (.string [106, 117, 109, 112]), .lit (.string [122, 101, 114, 111]), .lit (.string [98, 97, 114, 114, 105, 101, 114]), .lit (.string [101, 110, 100]), .lit (.string [110, 111, 116]), .lit (.string [110, 101, 103])]
theorem reads_names {H : Type} (enc : TypeId × Value → H) (W : World) (sp : Nat → Bool) : DataW.trod enc Tryd.prog W 0 sp true 4 48 cellsN.toList = some (namesH, []) := by kernel_rfl
theorem tPow : (Tryd.prog.globals[2]?).map (·.type) = some 91 := by kernel_rfl
theorem g64 : Tryd.prog.globalNamed "math/bits.deBruijn64tab" = some 4 := by kernel_rfl
theorem cellsU : Tryd.prog.cellsOf 70 = 1 := by kernel_rfl
theorem cellsP : Tryd.prog.cellsOf 91 = 20 := by kernel_rfl
theorem powD : (Rows.laid_internal_strconv_uint64pow10 : DataW Unit) = Lib.tabData .u64 Lib.pow10Tab := by kernel_rfl
theorem lt_of_var {W : World} {n : String} {cs : Array Value} {g : Nat} (hg : Tryd.prog.globalNamed n = some g) (h : W.var? Tryd.prog n = some cs) : g < W.heap.size := by
  unfold World.var? at h
  rw [hg] at h
  simp only [Option.bind_some] at h
  apply Nat.lt_of_not_le
  intro hle
  rw [Array.getElem?_eq_none hle] at h
  cases h
theorem env_of_laid {W : World} (h : laidMet Tryd.prog Rows.fnExactCodeTextRow.laid W) : Env W := by
  have h2 := h.tail.tail
  rw [powD] at h2
  have hN := cells_of_names h.tail.tail.tail
  obtain ⟨ps, ⟨g, t, cs, fuel, p, q, hg, ht, hvar, hd, _, _⟩, _⟩ := h.tail
  refine ⟨forms_of_laid h.tail.tail.tail.tail, fun k hk => ?_, Lib.tabIs_of_head gPow tPow Tryd.underlying91 Tryd.underlying70 cellsU cellsP h2, lt_of_var g64 hvar⟩
  rcases (by omega : k = 0 ∨ k = 1 ∨ k = 2 ∨ k = 3 ∨ k = 4 ∨ k = 5 ∨ k = 6 ∨ k = 7 ∨ k = 8 ∨ k = 9 ∨ k = 10 ∨ k = 11 ∨ k = 12 ∨ k = 13) with rfl | rfl | rfl | rfl | rfl | rfl | rfl | rfl | rfl | rfl | rfl | rfl | rfl | rfl
  · exact World.var?_cell gNam hN 0
  · exact World.var?_cell gNam hN 1
  · exact World.var?_cell gNam hN 2
  · exact World.var?_cell gNam hN 3
  · exact World.var?_cell gNam hN 4
  · exact World.var?_cell gNam hN 5
  · exact World.var?_cell gNam hN 6
  · exact World.var?_cell gNam hN 7
  · exact World.var?_cell gNam hN 8
  · exact World.var?_cell gNam hN 9
  · exact World.var?_cell gNam hN 10
  · exact World.var?_cell gNam hN 11
  · exact World.var?_cell gNam hN 12
  · exact World.var?_cell gNam hN 13
def lits : DataW Unit → List Value
  | .agg l => (l.map fun
    | .lit (.int k n) => [Value.int k n]
    | _ => []).flatten
  | _ => []
def layD (d : DataW Unit) : Obj → Obj
  | .cells _ t frozen => .cells (lits d).toArray t frozen
  | o => o
def layC (cs : Array Value) : Obj → Obj
  | .cells _ t frozen => .cells cs t frozen
  | o => o
/-- A world for the witness: the settled one, the variables holding what their initialisers lay. -/
noncomputable def laidWorldC (os : Os) : World :=
  let w0 := World.holding Tryd.prog os ⟨#[], #[], []⟩
  { w0 with heap := ((((w0.heap.modify 0 (layC cellsN)).modify 1 (layC cellsT)).modify 2 (layD Rows.laid_internal_strconv_uint64pow10)).modify 3 (layD Rows.laid_math_bits_deBruijn32tab)).modify 4 (layD Rows.laid_math_bits_deBruijn64tab) }
theorem laid_met (os : Os) : laidMet Tryd.prog Rows.fnExactCodeTextRow.laid ((laidWorldC os).forCall (fun _ _ => 0) ⟨#[], #[.slice none 0 0], []⟩).memory :=
  laidMet_of_run' 8 (by kernel_rfl) (by kernel_rfl)
set_option maxRecDepth 100000 in
theorem lifted (os : Os) (started : os.Started) (H : Type) (enc : TypeId × Value → H) :
    ReturnsInHanded {} Tryd.checked os 3 .any (fun w args => (Rows.fnExactCodeTextSpec.pre enc Tryd.prog Tryd.f3 [] false w args ∧ laidMetH Tryd.prog Rows.fnExactCodeTextRow.laid w) ∧ sizedMet enc Tryd.prog Tryd.f3 (OpenSpec.ofChange Rows.fnExactCodeTextSpec) false w args)
      (Rows.fnExactCodeTextSpec.post enc Tryd.prog Tryd.f3 false true false false) := by
  refine returnsInHanded_of_change_and (C := Tryd.checked) (X := fun w _ => laidMetH Tryd.prog Rows.fnExactCodeTextRow.laid w) (fun _ _ _ hh h => h.of_heap hh) own started (by kernel_rfl) Tryd.func3
    (ChangeSpec.witness_at (enc := enc) (C := Tryd.checked) (os := os) (X := fun w _ => laidMetH Tryd.prog Rows.fnExactCodeTextRow.laid w) false (laidWorldC os) #[.slice none 0 0] 8 rfl (by kernel_rfl) (by kernel_rfl) (by kernel_rfl) (by kernel_rfl) (by kernel_rfl) (laid_met os)) ?_
  intro W base args ds gs before hval0 hW _ _ hL _
  have hM : laidMet Tryd.prog Rows.fnExactCodeTextRow.laid W := hL
  have hN := hM.tail.tail.tail
  have hC := hN.tail
  have hval : ∀ (j : Nat) t v, Tryd.f3.params[j]? = some t → args[j]? = some v → Value.okWide Tryd.prog W .any base t v := hval0
  have hW' := hW
  obtain ⟨p, q, hA0, hV0, rfl, hfz, hnd⟩ := hW
  have hA : DataW.TrodAll enc Tryd.prog W 0 (fun _ => true) true Tryd.f3.params.toList args.toList ds p := hA0
  have hV : DataW.TrodVars enc Tryd.prog W (fun _ => true) ["loop.example/g00053/impl.opNames", "loop.example/g00053/impl.callForms"] gs q := hV0
  rw [Tryd.params3] at hA hval
  obtain ⟨v0, vs0, d0, ds0, p0, q0, hargs, rfl, rfl, h0, r0⟩ := trodAll_cons hA
  obtain ⟨rfl, rfl, rfl⟩ := trodAll_nil r0
  obtain rfl : args = #[v0] := by cases args; simp_all
  have k0 := h0
  have lt0 : ∀ x ∈ p0, x.block < W.heap.size := fun x hx => by have := hW'.lt x (by simp [hx]); simpa using this
  obtain ⟨s0, n0, c0, O, D, A, B, C, X, rfl, m0, A0, _, _, _, _, _, x0⟩ := viewI Tryd.underlying22 Tryd.underlying40 (by kernel_rfl) rfl rfl rfl rfl rfl rfl (by kernel_rfl) (by kernel_rfl) (by kernel_rfl) (by kernel_rfl) (by kernel_rfl) (by kernel_rfl) Tryd.underlying3 Tryd.underlying3 Tryd.underlying3 Tryd.underlying3 Tryd.underlying3 Tryd.underlying32 (hval 0 22 v0 rfl rfl) h0 lt0
  obtain ⟨dc, gs', rfl⟩ : ∃ d ds, gs = d :: ds := by
    cases gs with
    | nil => simp [DataW.TrodVars] at hV
    | cons d ds => exact ⟨d, ds, rfl⟩
  obtain ⟨g, t, cs, fuel, pc, qc, hg, ht, hvar, hd, hT, rfl⟩ := hV
  obtain ⟨g', t', cs', fuel', d', pf, rfl, hg', ht', hvar', hd', rfl⟩ := trodVars_one hT
  obtain rfl := Option.some.inj (gNam.symm.trans hg)
  obtain rfl := Option.some.inj (gNamType.symm.trans ht)
  obtain rfl : cs = cellsN := Option.some.inj (hvar.symm.trans (cells_of_names hN))
  obtain ⟨rfl, rfl⟩ := DataW.Trod.unique (v := .agg cellsN) ⟨fuel, hd⟩ ⟨4, reads_names enc W _⟩
  obtain rfl := Option.some.inj (gTab.symm.trans hg')
  obtain rfl := Option.some.inj (gTabType.symm.trans ht')
  obtain rfl : cs' = cellsT := Option.some.inj (hvar'.symm.trans (cells_of_laid hC))
  obtain ⟨rfl, rfl⟩ := DataW.Trod.unique (v := .agg cellsT) ⟨fuel', hd'⟩ ⟨4, reads_table enc W _⟩
  clear hA0 hV0 hval0
  refine (walk W (env_of_laid hM) s0 n0 c0 O D A B C X m0 A0 (fun i => word_of (x0 i))).mono fun e W' ⟨he, bel⟩ => ?_
  subst he
  have hv1 : W'.var? Tryd.prog "loop.example/g00053/impl.opNames" = some cellsN := var?_below bel gNam (by have := (env_of_laid hM).low; omega) hvar
  have hv2 : W'.var? Tryd.prog "loop.example/g00053/impl.callForms" = some cellsT := var?_below bel gTab (by have := (env_of_laid hM).low; omega) hvar'
  have arg0 := Below.trod laidOut (by kernel_rfl) (of_decide_eq_true (by kernel_rfl)) k0 bel lt0
  exact ⟨_, rfl, _, _, _, [], _, MemPlace.row ⟨0, 0, none⟩ cellsN.size ++ [] ++ (MemPlace.row ⟨1, 0, none⟩ cellsT.size ++ [] ++ []), hW', trodAll_cons_mk (shut_bool Tryd.underlying4 _) trodAll_mk0, (trodAll_cons_mk arg0 trodAll_mk0), ⟨0, 48, cellsN, 4, [], _, hg, ht, hv1, reads_names enc W' _, ⟨1, 88, cellsT, 4, [], [], hg', ht', hv2, reads_table enc W' _, rfl, rfl⟩, rfl⟩, bel.frame _, fun h => by cases h⟩
theorem said : Rows.FnExactCodeTextSaid :=
  OpenClaim.holds_of_wide 3 Tryd.f3 rfl rfl rfl rfl rfl rfl rfl ⟨rfl, rfl, rfl, rfl, rfl⟩ rfl rfl rfl rfl rfl (by kernel_rfl) Tryd.func3 (by kernel_rfl)
    (of_decide_eq_true (by kernel_rfl)) (by unfold Func.isWrapper; first | (rw [if_pos (by decide +kernel)]; kernel_rfl) | (rw [if_neg (by decide +kernel)]; exact ⟨rfl, rfl⟩))
    (fun os started H enc _ => lifted os started H enc)
theorem plain (f : FuncId) (fn : Func) (hf : Tryd.pinned.checked.prog.funcNamed "loop.example/g00053/laws.FnExactCodeText" = some f) (hfn : Tryd.pinned.checked.prog.funcs[f]? = some fn) :
    false = Tryd.pinned.checked.prog.looks [] ∧ ∀ (j : Nat) t, fn.params[j]? = some t → Tryd.pinned.checked.prog.wantsStandIn t = false := by
  obtain rfl : f = 3 := Option.some.inj ((show Tryd.prog.funcNamed "loop.example/g00053/laws.FnExactCodeText" = some 3 by kernel_rfl).symm.trans hf) |>.symm
  obtain rfl : fn = Tryd.f3 := (Option.some.inj (Tryd.func3.symm.trans hfn)).symm
  refine ⟨by kernel_rfl, fun j t ht => ?_⟩
  rw [Tryd.params3] at ht
  obtain rfl : t = 22 := by simpa using Array.mem_of_getElem? ht
  exact (show Tryd.prog.wantsStandIn 22 = false by kernel_rfl)
theorem card : Rows.FnExactCodeTextCardSaid :=
  Claim7.holds_tied_plain_at .later [] _ _ _ _ said (fun _ h => by cases h) (by kernel_rfl) (fun _ h => by cases h) fnExactCodeText_row_tie rfl ⟨rfl, rfl⟩ (by kernel_rfl) rfl plain (by kernel_rfl)
end Go.Proofs.YtdhhafmodkodbaaDoor.fnExactCodeText
namespace Go.Proofs.YtdhhafmodkodbaaDoor
theorem codetext_holds : Rows.FnExactCodeTextCardSaid := fnExactCodeText.card
#print axioms codetext_holds
end Go.Proofs.YtdhhafmodkodbaaDoor
