/- Proved: for every text the law FnExactFloatOf returns true (FloatOf answers as its model) and the argument reads afterwards as before. Conditions, tied to the program's text by the card: the table of float forms and the library's tables and errors read as the text lays them. -/
import Derived.Test.YtpildklndfgojaaDoorFltO
import Derived.Test.YtpildklndfgojaaDoorCards
import Derived.Test.YtpildklndfgojaaDoorTie
import Derived.Stop.LaidErr
import Derived.Lib.LaidTab
import Derived.LaidLaws
import Derived.WalkSmall
import Derived.ChangeMaps5
namespace Go.Proofs.YtpildklndfgojaaDoor.fnExactFloatOf
open Go.ChangeShapes Go.WideShapes Go.ChangeAt Go.RowKit
open Tk (Lb step_b float_of_both gSyn gRng gPow)
set_option linter.unusedVariables false
theorem walk (s : ByteArray) (hs : s.size ≤ maxLen) (w : World) (G : Forms w) (L : Lb w) :
    Calls Tryd.prog 7 #[.string s] w fun e w' => e = .returned (.bool true) ∧ Below w.heap.size w w' := by
  by_cases big : 1048576 < s.size
  · have big' : (1048576 : Int) < (s.size : Int) := by omega
    go_enter Tryd.func7, Tryd.ntmps7
    go_wp2
    go_ret
    exact ⟨rfl, Below.refl _ _⟩
  have hs' : (s.size : Int) ≤ 1048576 := by omega
  obtain ⟨R, B, hS, hI⟩ := float_of_both s (by omega)
  have HS : Hid (∀ w : World, Calls Tryd.prog 28 #[.string s] w fun e w' => e = .returned (.tuple #[.int .u32 R, .bool B]) ∧ Below w.heap.size w w') := hS
  have HI : Hid (∀ w : World, Lb w → Forms w → Calls Tryd.prog 29 #[.string s] w fun e w' => e = .returned (.tuple #[.int .u32 R, .bool B]) ∧ Below w.heap.size w w') := hI
  have HG : Hid (Lb w ∧ Forms w) := ⟨L, G⟩
  clear hS hI L G hs big
  cases B
  all_goals
    go_enter Tryd.func7, Tryd.ntmps7
    go_wp2_with (first | (go_at_call 28; refine ((Hid.out HS) w).mono ?_; rintro e w1 ⟨rfl, b1⟩) | (go_at_call 29; refine ((Hid.out HI) w1 (HG.out.1.next b1) (Forms.next HG.out.2 b1)).mono ?_; rintro e w2 ⟨rfl, b2⟩))
    go_ret
    exact ⟨rfl, step_b b1 b2⟩
theorem cells_of_laid2 {W : World} {r : List (String × DataW Unit)} (h : laidMet Tryd.prog (("loop.example/g00053/impl.floatForms", Rows.laid_loop_example_g00053_impl_floatForms) :: r) W) : W.var? Tryd.prog "loop.example/g00053/impl.floatForms" = some cells8 := by
  obtain ⟨ps, ⟨g, t, cs, fuel, p, q, hg, ht, hvar, hd, _, _⟩, _⟩ := h
  obtain rfl := Option.some.inj (gTab.symm.trans hg)
  obtain rfl := Option.some.inj (gTabType.symm.trans ht)
  rw [hvar]
  congr 1
  obtain ⟨l⟩ := cs
  cases fuel with
  | zero => simp [DataW.trod] at hd
  | succ fuel =>
    simp only [DataW.trod, Tryd.underlying59, cells59, cells58] at hd
    split at hd
    · rename_i hl
      obtain ⟨c0, c1, c2, c3, c4, c5, c6, c7, rfl⟩ : ∃ c0 c1 c2 c3 c4 c5 c6 c7, l = [c0, c1, c2, c3, c4, c5, c6, c7] := by
        match l, hl with
        | [a, b, c, d, e, f, g, h], _ => exact ⟨a, b, c, d, e, f, g, h, rfl⟩
      have e : List.range 2 = [0, 1] := rfl
      rw [e] at hd
      simp only [Option.map_eq_some_iff, List.mapM_cons, List.mapM_nil, Option.bind_eq_bind, Option.bind_eq_some_iff, Option.pure_def, Option.some.injEq, List.drop, List.take] at hd
      obtain ⟨xs, ⟨y0, h0, _, ⟨y1, h1, _, rfl, rfl⟩, rfl⟩, hx⟩ := hd
      obtain ⟨n0, n1, n2, n3, rfl, rfl, rfl, rfl, e0⟩ := form_of_trod h0
      obtain ⟨n4, n5, n6, n7, rfl, rfl, rfl, rfl, e1⟩ := form_of_trod h1
      simp [Rows.laid_loop_example_g00053_impl_floatForms, e0, e1] at hx
      obtain ⟨⟨⟨rfl, rfl, rfl, rfl⟩, ⟨rfl, rfl, rfl, rfl⟩⟩, _⟩ := hx
      rfl
    · cases hd
theorem forms_of_laid2 {W : World} {r : List (String × DataW Unit)} (h : laidMet Tryd.prog (("loop.example/g00053/impl.floatForms", Rows.laid_loop_example_g00053_impl_floatForms) :: r) W) : Forms W := by
  have hv := cells_of_laid2 h
  exact ⟨World.var?_cell gTab hv 0, World.var?_cell gTab hv 1, World.var?_cell gTab hv 2, World.var?_cell gTab hv 3, World.var?_cell gTab hv 4, World.var?_cell gTab hv 5, World.var?_cell gTab hv 6, World.var?_cell gTab hv 7⟩
theorem tSyn : (Tryd.prog.globals[3]?).map (·.type) = some 112 := by kernel_rfl
theorem tRng : (Tryd.prog.globals[4]?).map (·.type) = some 112 := by kernel_rfl
theorem tPow : (Tryd.prog.globals[7]?).map (·.type) = some 200 := by kernel_rfl
theorem g64 : Tryd.prog.globalNamed "math/bits.deBruijn64tab" = some 9 := by kernel_rfl
theorem rowE : ∀ u, Tryd.prog.typeName? 3 u = some "*errors.errorString" → u = 183 := by
  intro u h
  have star : "*errors.errorString" = "*" ++ "errors.errorString" := by decide
  exact typeName_ptr_named (nm := "errors.errorString") (by rw [← star]; kernel_rfl) (by kernel_rfl) (by decide) u (by rw [← star]; exact h)
theorem cellsE : Tryd.prog.cellsOf 185 = 1 := by kernel_rfl
theorem cellsS : Tryd.prog.cellsOf 9 = 1 := by kernel_rfl
theorem cellsU : Tryd.prog.cellsOf 51 = 1 := by kernel_rfl
theorem cellsP : Tryd.prog.cellsOf 200 = 20 := by kernel_rfl
theorem powD : (Rows.laid_internal_strconv_uint64pow10 : DataW Unit) = Lib.tabData .u64 Lib.pow10Tab := by kernel_rfl
theorem lt_of_var {W : World} {n : String} {cs : Array Value} {g : Nat} (hg : Tryd.prog.globalNamed n = some g) (h : W.var? Tryd.prog n = some cs) : g < W.heap.size := by
  unfold World.var? at h
  rw [hg] at h
  simp only [Option.bind_some] at h
  apply Nat.lt_of_not_le
  intro hle
  rw [Array.getElem?_eq_none hle] at h
  cases h
theorem lb_of_laid {W : World} (h : laidMet Tryd.prog Rows.fnExactFloatOfRow.laid W) : Lb W := by
  have h2 := h.tail.tail
  rw [powD] at h2
  obtain ⟨a0, s0, hv0, -, -, -⟩ := laid_sentinel h.tail.tail.tail.tail gRng tRng Tryd.underlying112 rowE Tryd.underlying183 Tryd.underlying185 rfl rfl Tryd.underlying9 cellsE cellsS
  obtain ⟨a1, s1, hv1, -, -, -⟩ := laid_sentinel h.tail.tail.tail.tail.tail gSyn tSyn Tryd.underlying112 rowE Tryd.underlying183 Tryd.underlying185 rfl rfl Tryd.underlying9 cellsE cellsS
  obtain ⟨ps, ⟨g, t, cs, fuel, p, q, hg, ht, hvar, hd, _, _⟩, _⟩ := h.tail
  exact ⟨⟨_, _, hv1⟩, ⟨_, _, hv0⟩, Lib.tabIs_of_head gPow tPow Tryd.underlying200 Tryd.underlying51 cellsU cellsP h2, lt_of_var g64 hvar⟩
def lits : DataW Unit → List Value
  | .agg l => (l.map fun
    | .lit (.int k n) => [Value.int k n]
    | .agg m => m.map fun
      | .lit (.int k n) => Value.int k n
      | _ => .nilIface
    | _ => []).flatten
  | _ => []
def layD (d : DataW Unit) : Obj → Obj
  | .cells _ t frozen => .cells (lits d).toArray t frozen
  | o => o
def layP (b : Nat) : Obj → Obj
  | .cells _ t frozen => .cells #[.iface 183 (.pointer (some ⟨b, 0, none⟩))] t frozen
  | o => o
def synS : ByteArray := { data := #[105, 110, 118, 97, 108, 105, 100, 32, 115, 121, 110, 116, 97, 120] }
def rngS : ByteArray := { data := #[118, 97, 108, 117, 101, 32, 111, 117, 116, 32, 111, 102, 32, 114, 97, 110, 103, 101] }
noncomputable def low : Nat := (World.holding Tryd.prog default ⟨#[], #[], []⟩).heap.size
/-- A world for the witness: the settled one, the variables holding what their initialisers lay. -/
noncomputable def laidWorldF (os : Os) : World :=
  let w0 := World.holding Tryd.prog os ⟨#[.cells #[.string synS] 185, .cells #[.string rngS] 185], #[], []⟩
  { w0 with heap := (((((((w0.heap.modify 0 (layD Rows.laid_loop_example_g00053_impl_floatForms)).modify 3 (layP low)).modify 4 (layP (low + 1))).modify 5 (layD Rows.laid_unicode_utf8_first)).modify 6 (layD Rows.laid_unicode_utf8_acceptRanges)).modify 7 (layD Rows.laid_internal_strconv_uint64pow10)).modify 8 (layD Rows.laid_math_bits_deBruijn32tab)).modify 9 (layD Rows.laid_math_bits_deBruijn64tab) }
theorem laid_met (os : Os) : laidMet Tryd.prog Rows.fnExactFloatOfRow.laid ((laidWorldF os).forCall (fun _ _ => 0) ⟨#[], #[.string ⟨#[]⟩], []⟩).memory :=
  laidMet_of_run' 8 (by kernel_rfl) (by kernel_rfl)
set_option maxRecDepth 100000 in
theorem lifted (os : Os) (started : os.Started) (H : Type) (enc : TypeId × Value → H) :
    ReturnsInHanded {} Tryd.checked os 7 .any (fun w args => (Rows.fnExactFloatOfSpec.pre enc Tryd.prog Tryd.f7 [] false w args ∧ laidMetH Tryd.prog Rows.fnExactFloatOfRow.laid w) ∧ sizedMet enc Tryd.prog Tryd.f7 (OpenSpec.ofChange Rows.fnExactFloatOfSpec) false w args)
      (Rows.fnExactFloatOfSpec.post enc Tryd.prog Tryd.f7 false true false false) := by
  refine returnsInHanded_of_change_and (C := Tryd.checked) (X := fun w _ => laidMetH Tryd.prog Rows.fnExactFloatOfRow.laid w) (fun _ _ _ hh h => h.of_heap hh) own started (by kernel_rfl) Tryd.func7
    (ChangeSpec.witness_at (enc := enc) (C := Tryd.checked) (os := os) (X := fun w _ => laidMetH Tryd.prog Rows.fnExactFloatOfRow.laid w) false (laidWorldF os) #[.string ⟨#[]⟩] 8 rfl (by kernel_rfl) (by kernel_rfl) (by kernel_rfl) (by kernel_rfl) (by kernel_rfl) (laid_met os)) ?_
  intro W base args ds gs before hval0 hW _ _ hL _
  have hM : laidMet Tryd.prog Rows.fnExactFloatOfRow.laid W := hL
  have hF := hM.tail.tail.tail.tail.tail.tail
  have hval : ∀ (j : Nat) t v, Tryd.f7.params[j]? = some t → args[j]? = some v → Value.okWide Tryd.prog W .any base t v := hval0
  have hW' := hW
  obtain ⟨p, q, hA0, hV0, rfl, hfz, hnd⟩ := hW
  have hA : DataW.TrodAll enc Tryd.prog W 0 (fun _ => true) true Tryd.f7.params.toList args.toList ds p := hA0
  have hV : DataW.TrodVars enc Tryd.prog W (fun _ => true) ["loop.example/g00053/impl.floatForms"] gs q := hV0
  rw [Tryd.params7] at hA hval
  obtain ⟨v0, vs0, d0, ds0, p0, q0, hargs, rfl, rfl, h0, r0⟩ := trodAll_cons hA
  obtain ⟨rfl, rfl, rfl⟩ := trodAll_nil r0
  obtain rfl : args = #[v0] := by cases args; simp_all
  obtain ⟨a0, rfl, rfl, rfl, w0⟩ := Go.ChangeMaps.open_string Tryd.underlying9 (hval 0 9 v0 rfl rfl) h0
  obtain ⟨g, t, cs, fuel, d, p', rfl, hg, ht, hvar, hd, rfl⟩ := trodVars_one hV
  obtain rfl := Option.some.inj (gTab.symm.trans hg)
  obtain rfl := Option.some.inj (gTabType.symm.trans ht)
  obtain rfl : cs = cells8 := Option.some.inj (hvar.symm.trans (cells_of_laid2 hF))
  obtain ⟨rfl, rfl⟩ := DataW.Trod.unique (v := .agg cells8) ⟨fuel, hd⟩ ⟨4, reads_table enc W _⟩
  clear hA0 hV0 hval0
  refine (walk a0 w0 W (forms_of_laid2 hF) (lb_of_laid hM)).mono fun e W' ⟨he, bel⟩ => ?_
  subst he
  have hv' : W'.var? Tryd.prog "loop.example/g00053/impl.floatForms" = some cells8 := var?_below bel gTab (forms_of_laid2 hF).pos hvar
  exact ⟨_, rfl, _, _, _, [], [], MemPlace.row ⟨0, 0, none⟩ cells8.size ++ [] ++ [], hW', trodAll_cons_mk (shut_bool Tryd.underlying4 _) trodAll_mk0, (trodAll_cons_mk (Go.ChangeMaps.shut_string Tryd.underlying9 w0) trodAll_mk0), ⟨0, 59, cells8, 4, [], [], hg, ht, hv', reads_table enc W' _, rfl, rfl⟩, bel.frame _, fun h => by cases h⟩

theorem said : Rows.FnExactFloatOfSaid :=
  OpenClaim.holds_of_wide 7 Tryd.f7 rfl rfl rfl rfl rfl rfl rfl ⟨rfl, rfl, rfl, rfl, rfl⟩ rfl rfl rfl rfl rfl (by kernel_rfl) Tryd.func7 (by kernel_rfl)
    (of_decide_eq_true (by kernel_rfl)) (by unfold Func.isWrapper; first | (rw [if_pos (by decide +kernel)]; kernel_rfl) | (rw [if_neg (by decide +kernel)]; exact ⟨rfl, rfl⟩))
    (fun os started H enc _ => lifted os started H enc)

theorem plain (f : FuncId) (fn : Func) (hf : Tryd.pinned.checked.prog.funcNamed "loop.example/g00053/laws.FnExactFloatOf" = some f) (hfn : Tryd.pinned.checked.prog.funcs[f]? = some fn) :
    true = Tryd.pinned.checked.prog.looks [] ∧ ∀ (j : Nat) t, fn.params[j]? = some t → Tryd.pinned.checked.prog.wantsStandIn t = false := by
  obtain rfl : f = 7 := Option.some.inj ((show Tryd.prog.funcNamed "loop.example/g00053/laws.FnExactFloatOf" = some 7 by kernel_rfl).symm.trans hf) |>.symm
  obtain rfl : fn = Tryd.f7 := (Option.some.inj (Tryd.func7.symm.trans hfn)).symm
  refine ⟨by kernel_rfl, fun j t ht => ?_⟩
  rw [Tryd.params7] at ht
  obtain rfl : t = 9 := by simpa using Array.mem_of_getElem? ht
  exact (show Tryd.prog.wantsStandIn 9 = false by kernel_rfl)

theorem card : Rows.FnExactFloatOfCardSaid :=
  Claim7.holds_tied_plain_at .later [] _ _ _ _ said (fun _ h => by cases h) (by kernel_rfl) (fun _ h => by cases h) fnExactFloatOf_row_tie rfl ⟨rfl, rfl⟩ (by kernel_rfl) rfl plain (by kernel_rfl)
end Go.Proofs.YtpildklndfgojaaDoor.fnExactFloatOf
namespace Go.Proofs.YtpildklndfgojaaDoor
theorem float_of_holds : Rows.FnExactFloatOfCardSaid := fnExactFloatOf.card
#print axioms float_of_holds
end Go.Proofs.YtpildklndfgojaaDoor
