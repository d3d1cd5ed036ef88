/- Proved: for every text the law FnExactReadTokens returns true: ReadTokens answers as its model, every token, the fault and its place; what it answers owns its memory (it may be written over, and a second call answers as the first). Conditions, tied to the program's text by the card: the library's tables and errors read as the text lays them. -/
import Derived.Test.YtpildklndfgojaaDoorTokZ
import Derived.Test.YtpildklndfgojaaDoorCards
import Derived.Test.YtpildklndfgojaaDoorTie
import Derived.Stop.LaidErr
import Derived.Lib.LaidTab
import Derived.LaidLaws
import Derived.WalkSmall
import Derived.ChangeMaps5
import Derived.Carry
namespace Go.Proofs.YtpildklndfgojaaDoor.fnExactReadTokens
open Go.ChangeShapes Go.WideShapes Go.ChangeAt Go.RowKit
open Tk
set_option linter.unusedVariables false
theorem own : ownKnob Tryd.prog.godebug = none := by kernel_rfl
set_option maxHeartbeats 4000000 in
set_option maxRecDepth 100000 in
theorem walk (s : ByteArray) (hs : s.size ≤ maxLen) (w : World) (L : Lb w) :
    Calls Tryd.prog 5 #[.string s] w fun e w' => e = .returned (.bool true) ∧ Below w.heap.size w w' := by
  by_cases big : 1048576 < s.size
  · have big' : (1048576 : Int) < (s.size : Int) := by omega
    go_enter Tryd.func5, Tryd.ntmps5
    go_wp2
    go_ret
    exact ⟨rfl, Below.refl _ _⟩
  have hs' : (s.size : Int) ≤ 1048576 := by omega
  obtain ⟨n, K, T, J, cd, a, hn, h18, h19⟩ := read_both s (by omega)
  have H18 : Hid (∀ w : World, Calls Tryd.prog 18 #[.string s] w (Says w n K T J cd a)) := h18
  have H19 : Hid (∀ w : World, Lb w → Calls Tryd.prog 19 #[.string s] w (Says w n K T J cd a)) := h19
  have HL : Hid (Lb w) := L
  have HN : Hid (n ≤ 400) := hn
  have nn : ¬ ((1 + 3 * n : Nat) : Int) < 0 := by omega
  obtain ⟨N, hN⟩ : ∃ N : Int, ((1 + 3 * n : Nat) : Int) = N := ⟨_, rfl⟩
  rw [hN] at nn
  have HNN : Hid (((1 + 3 * n : Nat) : Int) = N) := hN
  clear h18 h19 L big hn hN hs
  go_enter Tryd.func5, Tryd.ntmps5
  go_wp2_with (first | (go_at_call 18; refine (H18.out w).mono ?_; rintro e w1 ⟨u, rfl, U1, gu, B1⟩; obtain ⟨su, lu, cu, rfl⟩ := U1.is; clear gu) | (go_at_call 19; (with_reducible show Calls Tryd.prog 19 _ (w1.alloc _) _); refine (H19.out (w1.alloc (.cells #[.slice su lu cu, .int .i64 cd, .int .i64 a] 36)) (HL.out.next (B1.trans (alloc_b.mono B1.size)))).mono ?_; rintro e w2 ⟨v, rfl, V2, gv, B2⟩; rw [World.size_alloc] at gv B2; obtain ⟨sv, lv, cv, rfl⟩ := V2.is; have X3 := S5.start (cd := cd) (a := a) U1 B1 V2 gv B2; clear gv; (have p0 : w2.cell? ⟨w1.heap.size, 0, none⟩ = some (.slice su lu cu) := by rw [B2.cell (p := ⟨w1.heap.size, 0, none⟩) (by show w1.heap.size < w1.heap.size + 1; omega)]; simp); (have p1 : w2.cell? ⟨w1.heap.size, 1, none⟩ = some (.int .i64 cd) := by rw [B2.cell (p := ⟨w1.heap.size, 1, none⟩) (by show w1.heap.size < w1.heap.size + 1; omega)]; simp); (have p2 : w2.cell? ⟨w1.heap.size, 2, none⟩ = some (.int .i64 a) := by rw [B2.cell (p := ⟨w1.heap.size, 2, none⟩) (by show w1.heap.size < w1.heap.size + 1; omega)]; simp); (have lt2 : w1.heap.size < w2.heap.size := by have := B2.size; rw [World.size_alloc] at this; omega)) | (go_at_call 20; (with_reducible show Calls Tryd.prog 20 _ (w2.alloc _) _); refine (eq20 X3.V X3.U HN.out cd a).mono ?_; rintro e w3 ⟨rfl, B3⟩; have X4 := X3.next B3; obtain ⟨q0, q1, q2, q3, q4, q5⟩ := X4.cells) | (go_at_call 21; refine (mark21 X4.V HN.out cd a).mono ?_; rw [HNN.out]; rintro e w4 ⟨rfl, V4, g4⟩; have X5 := X4.mark V4 g4; clear V4 g4; obtain ⟨r0, r1, r2, r3, r4, r5⟩ := X5.cells) | (go_at_call 22; (with_reducible show Calls Tryd.prog 22 _ w4 _); refine (held22 X5.V HN.out cd a).mono ?_; rw [HNN.out]; rintro e w5 ⟨rfl, B5⟩; have X6 := X5.next B5; obtain ⟨s0, s1, s2, s3, s4, s5⟩ := X6.cells) | (go_at_call 19; (with_reducible show Calls Tryd.prog 19 _ w5 _); refine (H19.out w5 (HL.out.next X6.below)).mono ?_; rintro e w6 ⟨v2, rfl, V6, gv6, B6⟩; obtain ⟨sw, lw, cw, rfl⟩ := V6.is; have X7 := X6.next B6; obtain ⟨t0, t1, t2, t3, t4, t5⟩ := X7.cells; (have lt7 : w1.heap.size < w6.heap.size := (Array.getElem?_eq_some_iff.1 X7.b3).1); (have lt8 : w2.heap.size < w6.heap.size := (Array.getElem?_eq_some_iff.1 X7.b4).1)) | (go_at_call 20; (with_reducible show Calls Tryd.prog 20 _ (w6.alloc _) _); refine (eq20 (V6.next alloc_b) (X7.next alloc_b).U HN.out cd a).mono ?_; rintro e w7 ⟨rfl, B7⟩; have X8 := (X7.next (alloc_b (o := .cells #[.slice sw lw cw, .int .i64 cd, .int .i64 a] 36))).next B7; obtain ⟨k0, k1, k2, k3, k4, k5⟩ := X8.cells) | (go_at_call 22; (with_reducible show Calls Tryd.prog 22 _ w7 _); refine (held22 X8.V HN.out cd a).mono ?_; rw [HNN.out]; rintro e w8 ⟨rfl, B8⟩; have S9 := X8.next B8))
  go_ret
  exact ⟨rfl, S9.below⟩
theorem tSyn : (Tryd.prog.globals[3]?).map (·.type) = some 112 := by kernel_rfl
theorem tRng : (Tryd.prog.globals[4]?).map (·.type) = some 112 := by kernel_rfl
theorem tPow : (Tryd.prog.globals[7]?).map (·.type) = some 200 := by kernel_rfl
theorem g64 : Tryd.prog.globalNamed "math/bits.deBruijn64tab" = some 9 := by kernel_rfl
theorem rowE : ∀ u, Tryd.prog.typeName? 3 u = some "*errors.errorString" → u = 183 := by
  intro u h
  have star : "*errors.errorString" = "*" ++ "errors.errorString" := by decide
  exact typeName_ptr_named (nm := "errors.errorString") (by rw [← star]; kernel_rfl) (by kernel_rfl) (by decide) u (by rw [← star]; exact h)
theorem cellsE : Tryd.prog.cellsOf 185 = 1 := by kernel_rfl
theorem cellsS : Tryd.prog.cellsOf 9 = 1 := by kernel_rfl
theorem cellsU : Tryd.prog.cellsOf 51 = 1 := by kernel_rfl
theorem cellsP : Tryd.prog.cellsOf 200 = 20 := by kernel_rfl
theorem powD : (Rows.laid_internal_strconv_uint64pow10 : DataW Unit) = Lib.tabData .u64 Lib.pow10Tab := by kernel_rfl
theorem lt_of_var {W : World} {n : String} {cs : Array Value} {g : Nat} (hg : Tryd.prog.globalNamed n = some g) (h : W.var? Tryd.prog n = some cs) : g < W.heap.size := by
  unfold World.var? at h
  rw [hg] at h
  simp only [Option.bind_some] at h
  apply Nat.lt_of_not_le
  intro hle
  rw [Array.getElem?_eq_none hle] at h
  cases h
theorem lb_of_laid {W : World} (h : laidMet Tryd.prog Rows.fnExactReadTokensRow.laid W) : Lb W := by
  have h2 := h.tail.tail
  rw [powD] at h2
  obtain ⟨a0, s0, hv0, -, -, -⟩ := laid_sentinel h.tail.tail.tail.tail gRng tRng Tryd.underlying112 rowE Tryd.underlying183 Tryd.underlying185 rfl rfl Tryd.underlying9 cellsE cellsS
  obtain ⟨a1, s1, hv1, -, -, -⟩ := laid_sentinel h.tail.tail.tail.tail.tail gSyn tSyn Tryd.underlying112 rowE Tryd.underlying183 Tryd.underlying185 rfl rfl Tryd.underlying9 cellsE cellsS
  obtain ⟨ps, ⟨g, t, cs, fuel, p, q, hg, ht, hvar, hd, _, _⟩, _⟩ := h.tail
  exact ⟨⟨_, _, hv1⟩, ⟨_, _, hv0⟩, Lib.tabIs_of_head gPow tPow Tryd.underlying200 Tryd.underlying51 cellsU cellsP h2, lt_of_var g64 hvar⟩
def lits : DataW Unit → List Value
  | .agg l => (l.map fun
    | .lit (.int k n) => [Value.int k n]
    | .agg m => m.map fun
      | .lit (.int k n) => Value.int k n
      | _ => .nilIface
    | _ => []).flatten
  | _ => []
def layD (d : DataW Unit) : Obj → Obj
  | .cells _ t frozen => .cells (lits d).toArray t frozen
  | o => o
def layP (b : Nat) : Obj → Obj
  | .cells _ t frozen => .cells #[.iface 183 (.pointer (some ⟨b, 0, none⟩))] t frozen
  | o => o
def synS : ByteArray := { data := #[105, 110, 118, 97, 108, 105, 100, 32, 115, 121, 110, 116, 97, 120] }
def rngS : ByteArray := { data := #[118, 97, 108, 117, 101, 32, 111, 117, 116, 32, 111, 102, 32, 114, 97, 110, 103, 101] }
noncomputable def low : Nat := (World.holding Tryd.prog default ⟨#[], #[], []⟩).heap.size
/-- A world for the witness: the settled one, the variables holding what their initialisers lay. -/
noncomputable def laidWorldF (os : Os) : World :=
  let w0 := World.holding Tryd.prog os ⟨#[.cells #[.string synS] 185, .cells #[.string rngS] 185], #[], []⟩
  { w0 with heap := ((((((w0.heap.modify 3 (layP low)).modify 4 (layP (low + 1))).modify 5 (layD Rows.laid_unicode_utf8_first)).modify 6 (layD Rows.laid_unicode_utf8_acceptRanges)).modify 7 (layD Rows.laid_internal_strconv_uint64pow10)).modify 8 (layD Rows.laid_math_bits_deBruijn32tab)).modify 9 (layD Rows.laid_math_bits_deBruijn64tab) }
theorem laid_met (os : Os) : laidMet Tryd.prog Rows.fnExactReadTokensRow.laid ((laidWorldF os).forCall (fun _ _ => 0) ⟨#[], #[.string ⟨#[]⟩], []⟩).memory :=
  laidMet_of_run' 8 (by kernel_rfl) (by kernel_rfl)
set_option maxRecDepth 100000 in
theorem lifted (os : Os) (started : os.Started) (H : Type) (enc : TypeId × Value → H) :
    ReturnsInHanded {} Tryd.checked os 5 .any (fun w args => (Rows.fnExactReadTokensSpec.pre enc Tryd.prog Tryd.f5 [] false w args ∧ laidMetH Tryd.prog Rows.fnExactReadTokensRow.laid w) ∧ sizedMet enc Tryd.prog Tryd.f5 (OpenSpec.ofChange Rows.fnExactReadTokensSpec) false w args)
      (Rows.fnExactReadTokensSpec.post enc Tryd.prog Tryd.f5 false true false false) := by
  refine returnsInHanded_of_change_and (C := Tryd.checked) (X := fun w _ => laidMetH Tryd.prog Rows.fnExactReadTokensRow.laid w) (fun _ _ _ hh h => h.of_heap hh) own started (by kernel_rfl) Tryd.func5
    (ChangeSpec.witness_at (enc := enc) (C := Tryd.checked) (os := os) (X := fun w _ => laidMetH Tryd.prog Rows.fnExactReadTokensRow.laid w) false (laidWorldF os) #[.string ⟨#[]⟩] 8 rfl (by kernel_rfl) (by kernel_rfl) (by kernel_rfl) (by kernel_rfl) (by kernel_rfl) (laid_met os)) ?_
  intro W base args ds gs before hval0 hW _ _ hL _
  have hM : laidMet Tryd.prog Rows.fnExactReadTokensRow.laid W := hL
  have hval : ∀ (j : Nat) t v, Tryd.f5.params[j]? = some t → args[j]? = some v → Value.okWide Tryd.prog W .any base t v := hval0
  have hW' := hW
  obtain ⟨p, q, hA0, hV, rfl, hfz, hnd⟩ := hW
  have hA : DataW.TrodAll enc Tryd.prog W 0 (fun _ => true) true Tryd.f5.params.toList args.toList ds p := hA0
  rw [Tryd.params5] at hA hval
  obtain ⟨v0, vs0, d0, ds0, p0, q0, hargs, rfl, rfl, h0, r0⟩ := trodAll_cons hA
  obtain ⟨rfl, rfl, rfl⟩ := trodAll_nil r0
  obtain rfl : args = #[v0] := by cases args; simp_all
  obtain ⟨rfl, rfl⟩ := trodVars_none hV
  obtain ⟨a0, rfl, rfl, rfl, w0⟩ := Go.ChangeMaps.open_string Tryd.underlying9 (hval 0 9 v0 rfl rfl) h0
  clear hA0 hval0
  refine (walk a0 w0 W (lb_of_laid hM)).mono fun e W' ⟨he, bel⟩ => ?_
  subst he
  exact ⟨_, rfl, _, _, _, [], [], [], hW', trodAll_cons_mk (shut_bool Tryd.underlying4 _) trodAll_mk0, (trodAll_cons_mk (Go.ChangeMaps.shut_string Tryd.underlying9 w0) trodAll_mk0), rfl, bel.frame _, fun h => by cases h⟩

theorem said : Rows.FnExactReadTokensSaid :=
  OpenClaim.holds_of_wide 5 Tryd.f5 rfl rfl rfl rfl rfl rfl rfl ⟨rfl, rfl, rfl, rfl, rfl⟩ rfl rfl rfl rfl rfl (by kernel_rfl) Tryd.func5 (by kernel_rfl)
    (of_decide_eq_true (by kernel_rfl)) (by unfold Func.isWrapper; first | (rw [if_pos (by decide +kernel)]; kernel_rfl) | (rw [if_neg (by decide +kernel)]; exact ⟨rfl, rfl⟩))
    (fun os started H enc _ => lifted os started H enc)

theorem plain (f : FuncId) (fn : Func) (hf : Tryd.pinned.checked.prog.funcNamed "loop.example/g00053/laws.FnExactReadTokens" = some f) (hfn : Tryd.pinned.checked.prog.funcs[f]? = some fn) :
    true = Tryd.pinned.checked.prog.looks [] ∧ ∀ (j : Nat) t, fn.params[j]? = some t → Tryd.pinned.checked.prog.wantsStandIn t = false := by
  obtain rfl : f = 5 := Option.some.inj ((show Tryd.prog.funcNamed "loop.example/g00053/laws.FnExactReadTokens" = some 5 by kernel_rfl).symm.trans hf) |>.symm
  obtain rfl : fn = Tryd.f5 := (Option.some.inj (Tryd.func5.symm.trans hfn)).symm
  refine ⟨by kernel_rfl, fun j t ht => ?_⟩
  rw [Tryd.params5] at ht
  obtain rfl : t = 9 := by simpa using Array.mem_of_getElem? ht
  exact (show Tryd.prog.wantsStandIn 9 = false by kernel_rfl)

theorem card : Rows.FnExactReadTokensCardSaid :=
  Claim7.holds_tied_plain_at .later [] _ _ _ _ said (fun _ h => by cases h) (by kernel_rfl) (fun _ h => by cases h) fnExactReadTokens_row_tie rfl ⟨rfl, rfl⟩ (by kernel_rfl) rfl plain (by kernel_rfl)
end Go.Proofs.YtpildklndfgojaaDoor.fnExactReadTokens
namespace Go.Proofs.YtpildklndfgojaaDoor
theorem read_tokens_holds : Rows.FnExactReadTokensCardSaid := fnExactReadTokens.card
#print axioms read_tokens_holds
end Go.Proofs.YtpildklndfgojaaDoor
