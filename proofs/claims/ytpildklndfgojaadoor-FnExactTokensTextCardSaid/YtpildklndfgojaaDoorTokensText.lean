/- Proved: for every list of tokens the law FnExactTokensText returns true (TokensText answers as its model, the list is not written into) and the argument reads afterwards as before. Conditions, tied to the program's text by the card: the library's tables and errors read as the text lays them. -/
import Derived.Test.YtpildklndfgojaaDoorTokS
import Derived.Test.YtpildklndfgojaaDoorTokV
import Derived.Test.YtpildklndfgojaaDoorCards
import Derived.Test.YtpildklndfgojaaDoorTie
import Derived.Stop.LaidErr
import Derived.Lib.LaidTab
import Derived.LaidLaws
import Derived.WalkSmall
import Derived.ChangeMaps5
import Derived.Carry
namespace Go.Proofs.YtpildklndfgojaaDoor.fnExactTokensText
open Go.ChangeShapes Go.WideShapes Go.ChangeAt Go.RowKit
open Tk
set_option linter.unusedVariables false
theorem own : ownKnob Tryd.prog.godebug = none := by kernel_rfl
theorem laidOut : laidOutB Tryd.prog = true := by kernel_rfl
theorem text_both (n : Nat) (K J : Nat → Int) (T : Nat → ByteArray) : ∃ (S : ByteArray) (B : Bool), ∀ (o : Nat) (w : World), Row3 w o n K T J → n ≤ 1048576 → (∀ i, i < n → (T i).size ≤ 1048576) →
    Calls Tryd.prog 24 #[.slice (some ⟨o, 0, none⟩) n n] w (fun r w' => r = .returned (.tuple #[.string S, .bool B]) ∧ Below w.heap.size w w') ∧
    (Lb w → Calls Tryd.prog 26 #[.slice (some ⟨o, 0, none⟩) n n] w (fun r w' => r = .returned (.tuple #[.string S, .bool B]) ∧ Below w.heap.size w w')) := by
  by_cases hn : n ≤ 400
  · exact ⟨outS K T n, allG K T n, fun o w R h1 h2 => ⟨text24 R hn h2, fun L => text26 R hn h2 L⟩⟩
  · exact ⟨⟨#[]⟩, false, fun o w R h1 h2 => ⟨long24 _ n n w (by omega) h1, fun L => long26 _ n n w (by omega) h1⟩⟩
set_option maxHeartbeats 2000000 in
theorem walk (w : World) (s0 : Option Addr) (n0 c0 : Nat) (K0 : Nat → Int) (T0 : Nat → ByteArray) (J0 : Nat → Int) (m0 : n0 ≤ 9223372036854775807) (A0 : Arg3 w s0 n0 K0 T0 J0) (t0 : ∀ i, (T0 i).size ≤ 9223372036854775807) (L : Lb w) :
    Calls Tryd.prog 6 #[.slice s0 n0 c0] w fun e w' => e = .returned (.bool true) ∧ Below w.heap.size w w' := by
  have hsz := argT A0 c0 m0 t0
  have HS : Hid (Calls Tryd.prog 23 #[.slice s0 n0 c0, .int .i64 1048576] w fun r w' => (∃ z : Int, r = .returned (.int .i64 z) ∧ (z < 0 ∨ 0 ≤ z ∧ Hid (n0 ≤ 1048576 ∧ ∀ i, i < n0 → (T0 i).size ≤ 1048576))) ∧ Below w.heap.size w w') := hsz
  clear hsz
  obtain ⟨S, B, hb⟩ := text_both n0 K0 J0 T0
  have HB : Hid (∀ (o : Nat) (w : World), Row3 w o n0 K0 T0 J0 → n0 ≤ 1048576 → (∀ i, i < n0 → (T0 i).size ≤ 1048576) →
    Calls Tryd.prog 24 #[.slice (some ⟨o, 0, none⟩) n0 n0] w (fun r w' => r = .returned (.tuple #[.string S, .bool B]) ∧ Below w.heap.size w w') ∧
    (Lb w → Calls Tryd.prog 26 #[.slice (some ⟨o, 0, none⟩) n0 n0] w (fun r w' => r = .returned (.tuple #[.string S, .bool B]) ∧ Below w.heap.size w w'))) := hb
  have HA : Hid (Arg3 w s0 n0 K0 T0 J0 ∧ Lb w) := ⟨A0, L⟩
  clear A0 L hb
  have e : (S.toList == S.toList) = true := by simp
  cases B
  all_goals
    go_enter Tryd.func6, Tryd.ntmps6
    go_wp2_with (first | (go_at_call 23; refine (Hid.out HS).mono ?_; rintro e w1 ⟨⟨z, rfl, hz⟩, B1⟩; have HA1 : Hid (Arg3 w1 s0 n0 K0 T0 J0 ∧ Lb w1) := ⟨HA.out.1.next B1, HA.out.2.next B1⟩) | (go_at_call 25; (have hn : Hid (n0 ≤ 1048576 ∧ ∀ i, i < n0 → (T0 i).size ≤ 1048576) := by rcases hz with q | q; (· omega); (· exact q.2)); refine (argN (w := w1) HA1.out.1 c0 hn.out.1).mono ?_; rintro e w2 ⟨rfl, R2, B2⟩; have HA2 : Hid (Arg3 w2 s0 n0 K0 T0 J0 ∧ Lb w2) := ⟨HA1.out.1.next B2, HA1.out.2.next B2⟩) | (go_at_call 24; refine (HB.out _ w2 R2 hn.out.1 hn.out.2).1.mono ?_; rintro e w3 ⟨rfl, B3⟩; have HA3 : Hid (Arg3 w3 s0 n0 K0 T0 J0 ∧ Lb w3) := ⟨HA2.out.1.next B3, HA2.out.2.next B3⟩) | (go_at_call 25; refine (argN (w := w3) HA3.out.1 c0 hn.out.1).mono ?_; rintro e w4 ⟨rfl, R4, B4⟩; have HA4 : Hid (Arg3 w4 s0 n0 K0 T0 J0 ∧ Lb w4) := ⟨HA3.out.1.next B4, HA3.out.2.next B4⟩) | (go_at_call 26; refine ((HB.out _ w4 R4 hn.out.1 hn.out.2).2 HA4.out.2).mono ?_; rintro e w5 ⟨rfl, B5⟩; have HA5 : Hid (Arg3 w5 s0 n0 K0 T0 J0 ∧ Lb w5) := ⟨HA4.out.1.next B5, HA4.out.2.next B5⟩; have R5 := R4.next B5) | (go_at_call 25; refine (argN (w := w5) HA5.out.1 c0 hn.out.1).mono ?_; rintro e w6 ⟨rfl, R6, B6⟩; have R5' := R5.next B6) | (go_at_call 27; refine (eqN R5' R6 _ _ hn.out.1).mono ?_; rintro e w7 ⟨rfl, B7⟩))
    · go_ret
      exact ⟨rfl, B1⟩
    · go_ret
      exact ⟨rfl, step_b (step_b (step_b (step_b (step_b (step_b B1 B2) B3) B4) B5) B6) B7⟩
theorem tSyn : (Tryd.prog.globals[3]?).map (·.type) = some 112 := by kernel_rfl
theorem tRng : (Tryd.prog.globals[4]?).map (·.type) = some 112 := by kernel_rfl
theorem tPow : (Tryd.prog.globals[7]?).map (·.type) = some 200 := by kernel_rfl
theorem g64 : Tryd.prog.globalNamed "math/bits.deBruijn64tab" = some 9 := by kernel_rfl
theorem rowE : ∀ u, Tryd.prog.typeName? 3 u = some "*errors.errorString" → u = 183 := by
  intro u h
  have star : "*errors.errorString" = "*" ++ "errors.errorString" := by decide
  exact typeName_ptr_named (nm := "errors.errorString") (by rw [← star]; kernel_rfl) (by kernel_rfl) (by decide) u (by rw [← star]; exact h)
theorem cellsE : Tryd.prog.cellsOf 185 = 1 := by kernel_rfl
theorem cellsS : Tryd.prog.cellsOf 9 = 1 := by kernel_rfl
theorem cellsU : Tryd.prog.cellsOf 51 = 1 := by kernel_rfl
theorem cellsP : Tryd.prog.cellsOf 200 = 20 := by kernel_rfl
theorem powD : (Rows.laid_internal_strconv_uint64pow10 : DataW Unit) = Lib.tabData .u64 Lib.pow10Tab := by kernel_rfl
theorem lt_of_var {W : World} {n : String} {cs : Array Value} {g : Nat} (hg : Tryd.prog.globalNamed n = some g) (h : W.var? Tryd.prog n = some cs) : g < W.heap.size := by
  unfold World.var? at h
  rw [hg] at h
  simp only [Option.bind_some] at h
  apply Nat.lt_of_not_le
  intro hle
  rw [Array.getElem?_eq_none hle] at h
  cases h
theorem lb_of_laid {W : World} (h : laidMet Tryd.prog Rows.fnExactTokensTextRow.laid W) : Lb W := by
  have h2 := h.tail.tail
  rw [powD] at h2
  obtain ⟨a0, s0, hv0, -, -, -⟩ := laid_sentinel h.tail.tail.tail.tail gRng tRng Tryd.underlying112 rowE Tryd.underlying183 Tryd.underlying185 rfl rfl Tryd.underlying9 cellsE cellsS
  obtain ⟨a1, s1, hv1, -, -, -⟩ := laid_sentinel h.tail.tail.tail.tail.tail gSyn tSyn Tryd.underlying112 rowE Tryd.underlying183 Tryd.underlying185 rfl rfl Tryd.underlying9 cellsE cellsS
  obtain ⟨ps, ⟨g, t, cs, fuel, p, q, hg, ht, hvar, hd, _, _⟩, _⟩ := h.tail
  exact ⟨⟨_, _, hv1⟩, ⟨_, _, hv0⟩, Lib.tabIs_of_head gPow tPow Tryd.underlying200 Tryd.underlying51 cellsU cellsP h2, lt_of_var g64 hvar⟩
def lits : DataW Unit → List Value
  | .agg l => (l.map fun
    | .lit (.int k n) => [Value.int k n]
    | .agg m => m.map fun
      | .lit (.int k n) => Value.int k n
      | _ => .nilIface
    | _ => []).flatten
  | _ => []
def layD (d : DataW Unit) : Obj → Obj
  | .cells _ t frozen => .cells (lits d).toArray t frozen
  | o => o
def layP (b : Nat) : Obj → Obj
  | .cells _ t frozen => .cells #[.iface 183 (.pointer (some ⟨b, 0, none⟩))] t frozen
  | o => o
def synS : ByteArray := { data := #[105, 110, 118, 97, 108, 105, 100, 32, 115, 121, 110, 116, 97, 120] }
def rngS : ByteArray := { data := #[118, 97, 108, 117, 101, 32, 111, 117, 116, 32, 111, 102, 32, 114, 97, 110, 103, 101] }
noncomputable def low : Nat := (World.holding Tryd.prog default ⟨#[], #[], []⟩).heap.size
/-- A world for the witness: the settled one, the variables holding what their initialisers lay. -/
noncomputable def laidWorldF (os : Os) : World :=
  let w0 := World.holding Tryd.prog os ⟨#[.cells #[.string synS] 185, .cells #[.string rngS] 185], #[], []⟩
  { w0 with heap := ((((((w0.heap.modify 3 (layP low)).modify 4 (layP (low + 1))).modify 5 (layD Rows.laid_unicode_utf8_first)).modify 6 (layD Rows.laid_unicode_utf8_acceptRanges)).modify 7 (layD Rows.laid_internal_strconv_uint64pow10)).modify 8 (layD Rows.laid_math_bits_deBruijn32tab)).modify 9 (layD Rows.laid_math_bits_deBruijn64tab) }
theorem laid_met (os : Os) : laidMet Tryd.prog Rows.fnExactTokensTextRow.laid ((laidWorldF os).forCall (fun _ _ => 0) ⟨#[], #[.slice none 0 0], []⟩).memory :=
  laidMet_of_run' 8 (by kernel_rfl) (by kernel_rfl)
set_option maxRecDepth 100000 in
theorem lifted (os : Os) (started : os.Started) (H : Type) (enc : TypeId × Value → H) :
    ReturnsInHanded {} Tryd.checked os 6 .any (fun w args => (Rows.fnExactTokensTextSpec.pre enc Tryd.prog Tryd.f6 [] false w args ∧ laidMetH Tryd.prog Rows.fnExactTokensTextRow.laid w) ∧ sizedMet enc Tryd.prog Tryd.f6 (OpenSpec.ofChange Rows.fnExactTokensTextSpec) false w args)
      (Rows.fnExactTokensTextSpec.post enc Tryd.prog Tryd.f6 false true false false) := by
  refine returnsInHanded_of_change_and (C := Tryd.checked) (X := fun w _ => laidMetH Tryd.prog Rows.fnExactTokensTextRow.laid w) (fun _ _ _ hh h => h.of_heap hh) own started (by kernel_rfl) Tryd.func6
    (ChangeSpec.witness_at (enc := enc) (C := Tryd.checked) (os := os) (X := fun w _ => laidMetH Tryd.prog Rows.fnExactTokensTextRow.laid w) false (laidWorldF os) #[.slice none 0 0] 8 rfl (by kernel_rfl) (by kernel_rfl) (by kernel_rfl) (by kernel_rfl) (by kernel_rfl) (laid_met os)) ?_
  intro W base args ds gs before hval0 hW _ _ hL _
  have hM : laidMet Tryd.prog Rows.fnExactTokensTextRow.laid W := hL
  have hval : ∀ (j : Nat) t v, Tryd.f6.params[j]? = some t → args[j]? = some v → Value.okWide Tryd.prog W .any base t v := hval0
  have hW' := hW
  obtain ⟨p, q, hA0, hV, rfl, hfz, hnd⟩ := hW
  have hA : DataW.TrodAll enc Tryd.prog W 0 (fun _ => true) true Tryd.f6.params.toList args.toList ds p := hA0
  rw [Tryd.params6] at hA hval
  obtain ⟨v0, vs0, d0, ds0, p0, q0, hargs, rfl, rfl, h0, r0⟩ := trodAll_cons hA
  obtain ⟨rfl, rfl, rfl⟩ := trodAll_nil r0
  obtain rfl : args = #[v0] := by cases args; simp_all
  obtain ⟨rfl, rfl⟩ := trodVars_none hV
  simp only [List.append_nil] at hW'
  have k0 := h0
  have lt0 : ∀ x ∈ p0, x.block < W.heap.size := fun x hx => by have := hW'.lt x (by simp [hx]); simpa using this
  obtain ⟨s0, n0, c0, K0, T0, J0, rfl, m0, A0, t0, _, _⟩ := view_nodes Tryd.underlying41 Tryd.underlying104 (by kernel_rfl) rfl rfl rfl (by kernel_rfl) (by kernel_rfl) (by kernel_rfl) Tryd.underlying3 Tryd.underlying9 Tryd.underlying3 (hval 0 41 v0 rfl rfl) h0 lt0
  have arg0 : ∀ (W' : World), Below W.heap.size W W' → DataW.Trod enc Tryd.prog W' 0 (fun b => decide (b < W.heap.size)) true 41 (.slice s0 n0 c0) d0 p0 := fun W' hn => Below.trod laidOut (by kernel_rfl) (of_decide_eq_true (by kernel_rfl)) k0 hn lt0
  clear hA0 hval0
  refine (walk W s0 n0 c0 K0 T0 J0 m0 A0 t0 (lb_of_laid hM)).mono fun e W' ⟨he, hg⟩ => ?_
  subst he
  exact ⟨_, rfl, _, _, _, [], p0 ++ [], [], hW', trodAll_cons_mk (shut_bool Tryd.underlying4 _) trodAll_mk0, (trodAll_cons_mk (arg0 _ hg) trodAll_mk0), rfl, hg.frame _, fun h => by cases h⟩

theorem said : Rows.FnExactTokensTextSaid :=
  OpenClaim.holds_of_wide 6 Tryd.f6 rfl rfl rfl rfl rfl rfl rfl ⟨rfl, rfl, rfl, rfl, rfl⟩ rfl rfl rfl rfl rfl (by kernel_rfl) Tryd.func6 (by kernel_rfl)
    (of_decide_eq_true (by kernel_rfl)) (by unfold Func.isWrapper; first | (rw [if_pos (by decide +kernel)]; kernel_rfl) | (rw [if_neg (by decide +kernel)]; exact ⟨rfl, rfl⟩))
    (fun os started H enc _ => lifted os started H enc)

theorem plain (f : FuncId) (fn : Func) (hf : Tryd.pinned.checked.prog.funcNamed "loop.example/g00053/laws.FnExactTokensText" = some f) (hfn : Tryd.pinned.checked.prog.funcs[f]? = some fn) :
    true = Tryd.pinned.checked.prog.looks [] ∧ ∀ (j : Nat) t, fn.params[j]? = some t → Tryd.pinned.checked.prog.wantsStandIn t = false := by
  obtain rfl : f = 6 := Option.some.inj ((show Tryd.prog.funcNamed "loop.example/g00053/laws.FnExactTokensText" = some 6 by kernel_rfl).symm.trans hf) |>.symm
  obtain rfl : fn = Tryd.f6 := (Option.some.inj (Tryd.func6.symm.trans hfn)).symm
  refine ⟨by kernel_rfl, fun j t ht => ?_⟩
  rw [Tryd.params6] at ht
  obtain rfl : t = 41 := by simpa using Array.mem_of_getElem? ht
  exact (show Tryd.prog.wantsStandIn 41 = false by kernel_rfl)

theorem card : Rows.FnExactTokensTextCardSaid :=
  Claim7.holds_tied_plain_at .later [] _ _ _ _ said (fun _ h => by cases h) (by kernel_rfl) (fun _ h => by cases h) fnExactTokensText_row_tie rfl ⟨rfl, rfl⟩ (by kernel_rfl) rfl plain (by kernel_rfl)
end Go.Proofs.YtpildklndfgojaaDoor.fnExactTokensText
namespace Go.Proofs.YtpildklndfgojaaDoor
theorem tokens_text_holds : Rows.FnExactTokensTextCardSaid := fnExactTokensText.card
#print axioms tokens_text_holds
end Go.Proofs.YtpildklndfgojaaDoor
