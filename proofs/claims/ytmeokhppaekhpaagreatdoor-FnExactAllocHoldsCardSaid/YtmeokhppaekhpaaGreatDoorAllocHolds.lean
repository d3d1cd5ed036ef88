/- Proved: for every list of instructions, every alloc and every int the law FnExactAllocHolds returns true (AllocHolds answers as its model, and it writes into no argument) and the arguments read afterwards as before; condition (a tied card): the table of calls starts as the text of the program lays it. -/
import Derived.Test.YtmeokhppaekhpaaGreatDoorRows
import Derived.Test.YtmeokhppaekhpaaGreatDoorHlv
import Derived.Test.YtmeokhppaekhpaaGreatDoorTie
import Derived.Test.YtmeokhppaekhpaaGreatDoorCards
import Derived.OpenShut
import Derived.ChangeMaps5
import Derived.SevenTiedAt
namespace Go.Proofs.YtmeokhppaekhpaaGreatDoor.fnExactAllocHolds
open Go.ChangeShapes Go.WideShapes Go.ChangeAt Go.RowKit
set_option linter.unusedVariables false
theorem laidOut : laidOutB Tryz.prog = true := by kernel_rfl
theorem word_of {x : Int} (h : (Lit.int .u32 x).wf = true) : 0 ≤ x ∧ x < 4294967296 := by
  simp [Lit.wf] at h
  exact ⟨h.1, Int.lt_add_one_of_le h.2⟩
theorem i64_of {x : Int} (h : (Lit.int .i64 x).wf = true) : -9223372036854775808 ≤ x ∧ x ≤ 9223372036854775807 := by
  simp [Lit.wf] at h
  exact ⟨h.1, h.2⟩
theorem arg_wrow {w : World} {a : Option Addr} {n : Nat} {F : Nat → Int} (h : Arg w a n (fun i => .int .i64 (F i))) : WRow w a n F := fun i hi => by
  rcases h with h | ⟨b, off, h1, _, h3⟩
  · omega
  · exact ⟨b, off, h1, h3 i hi⟩
theorem view_one {P : Program} {W : World} {base : Nat} {e : TypeId} {v : Value} (he : P.underlying e = some (.int .i64)) (hok : Value.okWide P W .any base e v) : ∃ n, v = .int .i64 n := okWide_int he hok
theorem viewA {H : Type} {enc : TypeId × Value → H} {P : Program} {W : World} {base : Nat} {e ei : TypeId} {f0 f1 f2 : Field} {v : Value} {d : DataW H} {p : List MemPlace} (he : P.underlying e = some (.struct #[f0, f1, f2])) (ce : P.cellsOf e = 3)
    (o0 : f0.offset = 0) (o1 : f1.offset = 1) (o2 : f2.offset = 2) (c0 : P.cellsOf f0.type = 1) (c1 : P.cellsOf f1.type = 1) (c2 : P.cellsOf f2.type = 1) (u0 : P.underlying f0.type = some (.slice ei)) (ue : P.underlying ei = some (.int .i64)) (cei : P.cellsOf ei = 1) (u1 : P.underlying f1.type = some (.int .i64)) (u2 : P.underlying f2.type = some (.int .i64))
    (hok : Value.okWide P W .any base e v) (h : DataW.Trod enc P W 0 (fun _ => true) true e v d p) (hlt : ∀ x ∈ p, x.block < W.heap.size) :
    ∃ (a : Option Addr) (len cap : Nat) (f : Nat → Int) (n1 n2 : Int), v = .agg #[.slice a len cap, .int .i64 n1, .int .i64 n2] ∧ len ≤ 9223372036854775807 ∧ Arg W a len (fun i => .int .i64 (f i)) ∧ ∀ i, (Lit.int .i64 (f i)).wf = true := by
  obtain ⟨cs, rfl, hs⟩ := okWide_struct he hok
  obtain ⟨fuel, h2⟩ := h
  rw [ce] at hs
  obtain ⟨l⟩ := cs
  simp only [Value.cells] at h2
  obtain ⟨xs, k, hk, hxy, _, hxl, hf⟩ := DataW.trod_struct he h2
  match xs, hxl, l, hs with
  | [y0, y1, y2], _, [v0, v1, v2], _ =>
    have g0 := hf 0 f0 rfl
    have g1 := hf 1 f1 rfl
    have g2 := hf 2 f2 rfl
    simp [o0, o1, o2, c0, c1, c2] at g0 g1 g2
    obtain ⟨n1, hv1, _, hw1⟩ := DataW.trod_int u1 g1
    obtain ⟨n2, hv2, _, hw2⟩ := DataW.trod_int u2 g2
    simp only [List.cons.injEq, and_true] at hv1 hv2
    subst hv1 hv2
    have hp : ∀ x ∈ y0.2, x.block < W.heap.size := fun x hx => hlt x (by
      have h3 := congrArg Prod.snd hxy
      simp at h3
      rw [h3]
      simp [hx])
    rcases open_ints u0 ue cei g0 with ⟨hcs, hx⟩ | ⟨a, len', cap', zs, hcs, _, hl, hm, hz, hx, hcell, hwz⟩
    · simp at hcs
      subst hcs
      exact ⟨_, 0, 0, fun _ => 0, n1, n2, rfl, by omega, Or.inl rfl, fun _ => zero_wf .i64⟩
    · simp at hcs
      subst hcs
      rw [hx] at hp
      simp only [if_true] at hz
      refine ⟨_, len', cap', fun i => zs.getD i 0, n1, n2, rfl, by unfold maxLen at hm; omega, ?_, fun i => ?_⟩
      · by_cases hl0 : len' = 0
        · exact Or.inl hl0
        · obtain ⟨b, off, spot⟩ := a
          have hspot : spot = none := by simpa [Addr.add] using World.cell?_spot (hcell 0 (by omega))
          subst hspot
          have hbW : b < W.heap.size := hp (.cell b off) (MemPlace.mem_row.2 ⟨0, by omega, by simp⟩)
          exact Or.inr ⟨b, off, rfl, hbW, fun j hj => by rw [← add_plain]; exact hcell j (by omega)⟩
      · show (Lit.int .i64 (zs.getD i 0)).wf = true
        by_cases hi : i < zs.length
        · have e : zs.getD i 0 = zs[i] := by simp [List.getD, hi]
          rw [e]
          exact hwz _ (List.getElem_mem hi)
        · have e : zs.getD i 0 = 0 := by simp [List.getD, hi]
          rw [e]
          exact zero_wf .i64
set_option maxHeartbeats 4000000 in
set_option maxRecDepth 100000 in
theorem walk (w : World) (G : Forms w) (s0 : Option Addr) (n0 c0 : Nat) (O D A B C X : Nat → Int) (m0 : n0 ≤ 9223372036854775807) (A0 : ArgI w s0 n0 O D A B C X) (x0 : ∀ i, 0 ≤ X i ∧ X i < 4294967296) (ad : Option Addr) (m cp : Nat) (F : Nat → Int) (Kp S : Int) (m1 : m ≤ 9223372036854775807) (hr : ∀ i, i < m → -9223372036854775808 ≤ F i ∧ F i ≤ 9223372036854775807) (hW : WRow w ad m F) (pl : Int) :
    Calls Tryz.prog 4 #[.slice s0 n0 c0, .agg #[.slice ad m cp, .int .i64 Kp, .int .i64 S], .int .i64 pl] w fun e w' => e = .returned (.bool true) ∧ Below w.heap.size w w' := by
  exact allocholds_law w G s0 n0 c0 O D A B C X m0 A0 x0 ad m cp F Kp S pl m1 hr hW

theorem laid_met (os : Os) : laidMet Tryz.prog Rows.fnExactAllocHoldsRow.laid ((laidWorld os).forCall (fun _ _ => 0) ⟨#[], #[.slice none 0 0, .agg #[.slice none 0 0, .int .i64 0, .int .i64 0], .int .i64 0], []⟩).memory :=
  laidMet_of_run' 8 (by kernel_rfl) (by kernel_rfl)
set_option maxRecDepth 100000 in
theorem lifted (os : Os) (started : os.Started) (H : Type) (enc : TypeId × Value → H) :
    ReturnsInHanded {} Tryz.checked os 4 .any (fun w args => (Rows.fnExactAllocHoldsSpec.pre enc Tryz.prog Tryz.f4 [] false w args ∧ laidMetH Tryz.prog Rows.fnExactAllocHoldsRow.laid w) ∧ sizedMet enc Tryz.prog Tryz.f4 (OpenSpec.ofChange Rows.fnExactAllocHoldsSpec) false w args)
      (Rows.fnExactAllocHoldsSpec.post enc Tryz.prog Tryz.f4 false true false false) := by
  refine returnsInHanded_of_change_and (C := Tryz.checked) (X := fun w _ => laidMetH Tryz.prog Rows.fnExactAllocHoldsRow.laid w) (fun _ _ _ hh h => h.of_heap hh) own started (by kernel_rfl) Tryz.func4
    (ChangeSpec.witness_at (enc := enc) (C := Tryz.checked) (os := os) (X := fun w _ => laidMetH Tryz.prog Rows.fnExactAllocHoldsRow.laid w) false (laidWorld os) #[.slice none 0 0, .agg #[.slice none 0 0, .int .i64 0, .int .i64 0], .int .i64 0] 8 rfl (by kernel_rfl) (by kernel_rfl) (by kernel_rfl) (by kernel_rfl) (by kernel_rfl) (laid_met os)) ?_
  intro W base args ds gs before hval0 hW _ _ hL _
  have hval : ∀ (j : Nat) t v, Tryz.f4.params[j]? = some t → args[j]? = some v → Value.okWide Tryz.prog W .any base t v := hval0
  have hW' := hW
  obtain ⟨p, q, hA0, hV0, rfl, hfz, hnd⟩ := hW
  have hA : DataW.TrodAll enc Tryz.prog W 0 (fun _ => true) true Tryz.f4.params.toList args.toList ds p := hA0
  have hV : DataW.TrodVars enc Tryz.prog W (fun _ => true) ["loop.example/g00053/impl.callForms"] gs q := hV0
  rw [Tryz.params4] at hA hval
  obtain ⟨v0, vs0, d0, ds0, p0, q0, hargs, rfl, rfl, h0, r0⟩ := trodAll_cons hA
  obtain ⟨v1, vs1, d1, ds1, p1, q1, rfl, rfl, rfl, h1, r1⟩ := trodAll_cons r0
  obtain ⟨v2, vs2, d2, ds2, p2, q2, rfl, rfl, rfl, h2, r2⟩ := trodAll_cons r1
  obtain ⟨rfl, rfl, rfl⟩ := trodAll_nil r2
  obtain rfl : args = #[v0, v1, v2] := by cases args; simp_all
  have k0 := h0
  have lt0 : ∀ x ∈ p0, x.block < W.heap.size := fun x hx => by have := hW'.lt x (by simp [hx]); simpa using this
  obtain ⟨s0, n0, c0, O, D, A, B, C, X, rfl, m0, A0, _, _, _, _, _, x0⟩ := viewI Tryz.underlying22 Tryz.underlying53 (by kernel_rfl) rfl rfl rfl rfl rfl rfl (by kernel_rfl) (by kernel_rfl) (by kernel_rfl) (by kernel_rfl) (by kernel_rfl) (by kernel_rfl) Tryz.underlying3 Tryz.underlying3 Tryz.underlying3 Tryz.underlying3 Tryz.underlying3 Tryz.underlying49 (hval 0 22 v0 rfl rfl) h0 lt0
  have k1 := h1
  have lt1 : ∀ x ∈ p1, x.block < W.heap.size := fun x hx => by have := hW'.lt x (by simp [hx]); simpa using this
  obtain ⟨ad, m, cp, F, Kp, S, rfl, m1, A1, z1⟩ := viewA Tryz.underlying36 (by kernel_rfl) rfl rfl rfl (by kernel_rfl) (by kernel_rfl) (by kernel_rfl) Tryz.underlying24 Tryz.underlying3 (by kernel_rfl) Tryz.underlying3 Tryz.underlying3 (hval 1 36 v1 rfl rfl) h1 lt1
  have k2 := h2
  have lt2 : ∀ x ∈ p2, x.block < W.heap.size := fun x hx => by have := hW'.lt x (by simp [hx]); simpa using this
  obtain ⟨pl, rfl⟩ := view_one Tryz.underlying3 (hval 2 3 v2 rfl rfl)
  obtain ⟨g, t, cs, fuel, d, p', rfl, hg, ht, hvar, hd, rfl⟩ := trodVars_one hV
  obtain rfl := Option.some.inj (gTab.symm.trans hg)
  obtain rfl := Option.some.inj (gTabType.symm.trans ht)
  obtain rfl : cs = cellsT := Option.some.inj (hvar.symm.trans (cells_of_laid hL))
  obtain ⟨rfl, rfl⟩ := DataW.Trod.unique (v := .agg cellsT) ⟨fuel, hd⟩ ⟨4, reads_table enc W _⟩
  clear hA0 hV0 hval0
  refine (walk W (forms_of_laid hL) s0 n0 c0 O D A B C X m0 A0 (fun i => word_of (x0 i)) ad m cp F Kp S m1 (fun i _ => i64_of (z1 i)) (arg_wrow A1) pl).mono fun e W' ⟨he, bel⟩ => ?_
  subst he
  have hv' : W'.var? Tryz.prog "loop.example/g00053/impl.callForms" = some cellsT := var?_below bel gTab (forms_of_laid hL).pos hvar
  have arg0 := Below.trod laidOut (by kernel_rfl) (of_decide_eq_true (by kernel_rfl)) k0 bel lt0
  have arg1 := Below.trod laidOut (by kernel_rfl) (of_decide_eq_true (by kernel_rfl)) k1 bel lt1
  have arg2 := Below.trod laidOut (by kernel_rfl) (of_decide_eq_true (by kernel_rfl)) k2 bel lt2
  exact ⟨_, rfl, _, _, _, [], _, MemPlace.row ⟨0, 0, none⟩ cellsT.size ++ [] ++ [], hW', trodAll_cons_mk (shut_bool Tryz.underlying4 _) trodAll_mk0, (trodAll_cons_mk arg0 (trodAll_cons_mk arg1 (trodAll_cons_mk arg2 trodAll_mk0))), ⟨0, 127, cellsT, 4, [], [], hg, ht, hv', reads_table enc W' _, rfl, rfl⟩, bel.frame _, fun h => by cases h⟩
theorem said : Rows.FnExactAllocHoldsSaid :=
  OpenClaim.holds_of_wide 4 Tryz.f4 rfl rfl rfl rfl rfl rfl rfl ⟨rfl, rfl, rfl, rfl, rfl⟩ rfl rfl rfl rfl rfl (by kernel_rfl) Tryz.func4 (by kernel_rfl)
    (of_decide_eq_true (by kernel_rfl)) (by unfold Func.isWrapper; first | (rw [if_pos (by decide +kernel)]; kernel_rfl) | (rw [if_neg (by decide +kernel)]; exact ⟨rfl, rfl⟩))
    (fun os started H enc _ => lifted os started H enc)
theorem plain (f : FuncId) (fn : Func) (hf : Tryz.pinned.checked.prog.funcNamed "loop.example/g00053/laws.FnExactAllocHolds" = some f) (hfn : Tryz.pinned.checked.prog.funcs[f]? = some fn) :
    false = Tryz.pinned.checked.prog.looks [] ∧ ∀ (j : Nat) t, fn.params[j]? = some t → Tryz.pinned.checked.prog.wantsStandIn t = false := by
  obtain rfl : f = 4 := Option.some.inj ((show Tryz.prog.funcNamed "loop.example/g00053/laws.FnExactAllocHolds" = some 4 by kernel_rfl).symm.trans hf) |>.symm
  obtain rfl : fn = Tryz.f4 := (Option.some.inj (Tryz.func4.symm.trans hfn)).symm
  refine ⟨by kernel_rfl, fun j t ht => ?_⟩
  rw [Tryz.params4] at ht
  rcases (show t = 22 ∨ t = 36 ∨ t = 3 by simpa using Array.mem_of_getElem? ht) with rfl | rfl | rfl
  · exact (show Tryz.prog.wantsStandIn 22 = false by kernel_rfl)
  · exact (show Tryz.prog.wantsStandIn 36 = false by kernel_rfl)
  · exact (show Tryz.prog.wantsStandIn 3 = false by kernel_rfl)
theorem card : Rows.FnExactAllocHoldsCardSaid :=
  Claim7.holds_tied_plain_at .later [] _ _ _ _ said (fun _ h => by cases h) (by kernel_rfl) (fun _ h => by cases h) fnExactAllocHolds_row_tie rfl ⟨rfl, rfl⟩ (by kernel_rfl) rfl plain (by kernel_rfl)
end Go.Proofs.YtmeokhppaekhpaaGreatDoor.fnExactAllocHolds
namespace Go.Proofs.YtmeokhppaekhpaaGreatDoor
theorem allocholds_holds : Rows.FnExactAllocHoldsCardSaid := fnExactAllocHolds.card
#print axioms allocholds_holds
end Go.Proofs.YtmeokhppaekhpaaGreatDoor
