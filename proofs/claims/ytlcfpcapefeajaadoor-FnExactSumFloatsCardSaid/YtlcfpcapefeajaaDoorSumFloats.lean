/- Proved: for every list of words and every mask the law FnExactSumFloats returns true (SumFloats answers as its model, and writes nothing into its argument) and the arguments read afterwards as before; conditions: the table of float forms holds what its initialiser lays (the card ties it). -/
import Derived.Test.YtlcfpcapefeajaaDoorTreeA
import Derived.Test.YtlcfpcapefeajaaDoorCards
import Derived.Test.YtlcfpcapefeajaaDoorTie
import Derived.Carry
namespace Go.Proofs.YtlcfpcapefeajaaDoor.fnExactSumFloats
open Go.ChangeShapes Go.WideShapes Go.ChangeAt Go.RowKit
open Pl
set_option linter.unusedVariables false
theorem laidOut : laidOutB Tryd.prog = true := by kernel_rfl
theorem good16 {n : Nat} {m : Int} (h : goodM n m = true) : n ≤ 16 := by
  unfold goodM at h; simp only [decide_eq_true_eq] at h; omega
theorem pk_zero (d : Nat → Int) : ∀ n, pk d 0 n = []
  | 0 => rfl
  | n + 1 => by rw [pk_off d 0 n (on_zero n)]; exact pk_zero d n
set_option maxRecDepth 100000 in
theorem tree0 (a : Option Addr) (cap : Nat) (w : World) : Calls Tryd.prog 43 #[.slice a 0 cap] w fun e w' => e = .returned (.int .u32 0) ∧ Below w.heap.size w w' := by
  go_enter Tryd.func43, Tryd.ntmps43
  go_wp2
  go_ret
  exact ⟨rfl, Below.refl _ _⟩
theorem shape3 {w : World} {b : Nat} {v : Value} {xs : List Int} (h : w.ownsRow b 22 1 v xs.length (xs.map (Value.int .u32))) :
    (v = .slice none 0 0 ∧ xs.length = 0) ∨ ∃ g cap, v = .slice (some ⟨g, 0, none⟩) xs.length cap ∧ g < w.heap.size ∧ xs.length ≤ cap ∧ cap ≤ 9223372036854775807 ∧ ∀ i, i < xs.length → w.cell? ⟨g, 0 + i, none⟩ = some (.int .u32 (xs.getD i 0)) := by
  have h' := h
  obtain ⟨_, ⟨h1, h2⟩ | ⟨g, cap, cur, rfl, hg, r1, r2, r3, r⟩⟩ := h
  · exact Or.inl ⟨h1, h2⟩
  · have O := own_owned h' (fun i => .int .u32 (xs.getD i 0)) (fun i hi => by simp [List.getD, hi])
    exact Or.inr ⟨g, cap, rfl, O.hi, r2, by unfold maxLen at r3; omega, fun i hi => by rw [Nat.zero_add]; exact O.cell i hi⟩
set_option maxRecDepth 100000 in
set_option maxHeartbeats 2000000 in
theorem s26 (n a ca : Nat) (d : Nat → Int) (m R : Int) (w : World) (hg : goodM n m = true) (la : a < w.heap.size) (hc : ∀ i, i < n → w.cell? ⟨a, i, none⟩ = some (.int .u32 (d i)))
    (HT : Hid (∀ (v : World) (x : Value), v.ownsRow w.heap.size 22 1 x (pk d m n).length ((pk d m n).map (Value.int .u32)) → Calls Tryd.prog 43 #[x] v fun e w' => e = .returned (.int .u32 R) ∧ Below v.heap.size v w')) :
    Calls Tryd.prog 26 #[.slice (some ⟨a, 0, none⟩) n ca, .int .i64 m] w fun r w' => r = .returned (.tuple #[.int .u32 R, .bool true]) ∧ Below w.heap.size w w' := by
  have hn := good16 hg
  have HC : Hid (∀ i, i < n → w.cell? ⟨a, i, none⟩ = some (.int .u32 (d i))) := hc
  clear hc
  go_enter Tryd.func26, Tryd.ntmps26
  go_wp2_with (first | (go_at_call 42; refine (gm9 _ _ _).mono ?_; rintro e w1 ⟨rfl, hw1⟩; subst w1; rw [hg]) | (go_at_call 44; refine (pick32 n a ca d m w hn la HC.out).mono ?_; rintro e w2 ⟨v, rfl, OW, B2⟩) | (go_at_call 43; refine ((Hid.out HT) w2 v OW).mono ?_; rintro e w3 ⟨rfl, B3⟩))
  go_ret2
  exact ⟨rfl, B2.trans (B3.mono B2.size)⟩
set_option maxRecDepth 100000 in
theorem s26x (n : Nat) (a : Option Addr) (ca : Nat) (m : Int) (w : World) (hg : goodM n m = false) :
    Calls Tryd.prog 26 #[.slice a n ca, .int .i64 m] w fun r w' => r = .returned (.tuple #[.int .u32 0, .bool false]) ∧ Below w.heap.size w w' := by
  go_enter Tryd.func26, Tryd.ntmps26
  go_wp2_with (go_at_call 42; refine (gm9 _ _ _).mono ?_; rintro e w1 ⟨rfl, hw1⟩; subst w1; rw [hg])
  go_ret2
  exact ⟨rfl, Below.refl _ _⟩
set_option maxRecDepth 100000 in
theorem i28x (n : Nat) (a : Option Addr) (ca : Nat) (m : Int) (w : World) (hg : goodM n m = false) :
    Calls Tryd.prog 28 #[.slice a n ca, .int .i64 m] w fun r w' => r = .returned (.tuple #[.int .u32 0, .bool false]) ∧ Below w.heap.size w w' := by
  go_enter Tryd.func28, Tryd.ntmps28
  go_wp2_with (go_at_call 40; refine (gm10 _ _ _).mono ?_; rintro e w1 ⟨rfl, hw1⟩; subst w1; rw [hg])
  go_ret2
  exact ⟨rfl, Below.refl _ _⟩
set_option maxRecDepth 100000 in
set_option maxHeartbeats 2000000 in
theorem i28z (n : Nat) (a : Option Addr) (ca : Nat) (m : Int) (w : World) (hg : goodM n m = true) (hm : m = 0) :
    Calls Tryd.prog 28 #[.slice a n ca, .int .i64 m] w fun r w' => r = .returned (.tuple #[.int .u32 0, .bool true]) ∧ Below w.heap.size w w' := by
  obtain ⟨m0, _, m1⟩ := good_parts hg
  have hEq : ∀ w : World, (Op.equalIn 10000 62 (.agg #[.bool (onM m 0), .bool (onM m 1), .bool (onM m 2), .bool (onM m 3), .bool (onM m 4), .bool (onM m 5), .bool (onM m 6), .bool (onM m 7), .bool (onM m 8), .bool (onM m 9), .bool (onM m 10), .bool (onM m 11), .bool (onM m 12), .bool (onM m 13), .bool (onM m 14), .bool (onM m 15)]) (.agg #[.bool false, .bool false, .bool false, .bool false, .bool false, .bool false, .bool false, .bool false, .bool false, .bool false, .bool false, .bool false, .bool false, .bool false, .bool false, .bool false])).run Tryd.prog w = .ok true w := fun w => by rw [eqLanes m m0 m1, decide_eq_true hm]
  clear m0 m1 hm
  go_enter Tryd.func28, Tryd.ntmps28
  go_wp2_with (first | (go_at_call 40; refine (gm10 _ _ _).mono ?_; rintro e w1 ⟨rfl, hw1⟩; subst w1; rw [hg]) | (go_at_call 45; refine (lanes31 m w).mono ?_; rintro e w1 ⟨rfl, B1⟩; (have Bx : Below w.heap.size w (w1.alloc (.cells (lanesV m) 62)) := B1.trans (((Below.refl _ _).alloc (Nat.le_refl _) _).mono B1.size))))
  go_ret2
  exact ⟨rfl, Bx⟩
set_option maxRecDepth 100000 in
set_option maxHeartbeats 2000000 in
theorem i28 (n a ca : Nat) (d : Nat → Int) (m R : Int) (w : World) (F : Forms w) (hg : goodM n m = true) (hm : m ≠ 0) (la : a < w.heap.size) (hc : ∀ i, i < n → w.cell? ⟨a, i, none⟩ = some (.int .u32 (d i)))
    (HT : Hid (∀ (v : World) (x : Value) (b : Nat), Forms v → v.ownsRow b 22 1 x (pk d m n).length ((pk d m n).map (Value.int .u32)) → Calls Tryd.prog 46 #[x] v fun e w' => e = .returned (.int .u32 R) ∧ Below v.heap.size v w')) :
    Calls Tryd.prog 28 #[.slice (some ⟨a, 0, none⟩) n ca, .int .i64 m] w fun r w' => r = .returned (.tuple #[.int .u32 R, .bool true]) ∧ Below w.heap.size w w' := by
  have hn := good16 hg
  have HC : Hid (∀ i, i < n → w.cell? ⟨a, i, none⟩ = some (.int .u32 (d i))) := hc
  clear hc
  obtain ⟨m0, _, m1⟩ := good_parts hg
  have hEq : ∀ w : World, (Op.equalIn 10000 62 (.agg #[.bool (onM m 0), .bool (onM m 1), .bool (onM m 2), .bool (onM m 3), .bool (onM m 4), .bool (onM m 5), .bool (onM m 6), .bool (onM m 7), .bool (onM m 8), .bool (onM m 9), .bool (onM m 10), .bool (onM m 11), .bool (onM m 12), .bool (onM m 13), .bool (onM m 14), .bool (onM m 15)]) (.agg #[.bool false, .bool false, .bool false, .bool false, .bool false, .bool false, .bool false, .bool false, .bool false, .bool false, .bool false, .bool false, .bool false, .bool false, .bool false, .bool false])).run Tryd.prog w = .ok false w := fun w => by rw [eqLanes m m0 m1, decide_eq_false hm]
  clear m0 m1
  have HF : Hid (Forms w) := F
  clear F
  go_enter Tryd.func28, Tryd.ntmps28
  go_wp2_with (first | (go_at_call 40; refine (gm10 _ _ _).mono ?_; rintro e w1 ⟨rfl, hw1⟩; subst w1; rw [hg]) | (go_at_call 45; refine (lanes31 m w).mono ?_; rintro e w1 ⟨rfl, B1⟩; (have Bx : Below w.heap.size w (w1.alloc (.cells (lanesV m) 62)) := B1.trans (((Below.refl _ _).alloc (Nat.le_refl _) _).mono B1.size))) | (go_at_call 47; refine (pick33 n a ca d m (w1.alloc (.cells (lanesV m) 62)) hn (by have := B1.size; simp; omega) (fun i hi => (Bx.cell (p := ⟨a, i, none⟩) la).trans (HC.out i hi))).mono ?_; rintro e w2 ⟨v, rfl, OW, B2'⟩; have B2 := Bx.trans (B2'.mono Bx.size)) | (go_at_call 46; refine ((Hid.out HT) w2 v _ (HF.out.below B2) OW).mono ?_; rintro e w3 ⟨rfl, B3⟩))
  go_ret2
  exact ⟨rfl, B2.trans (B3.mono B2.size)⟩
theorem both (n : Nat) (d : Nat → Int) (m : Int) (hd : ∀ i, inW (d i)) : ∃ R : Int,
    (∀ (w : World) (o c : Nat), Pl.Own w o n (fun i => .int .u32 (d i)) → Calls Tryd.prog 26 #[.slice (some ⟨o, 0, none⟩) n c, .int .i64 m] w fun r w' => r = .returned (.tuple #[.int .u32 R, .bool (goodM n m)]) ∧ Below w.heap.size w w') ∧
    (∀ (w : World) (o c : Nat), Forms w → Pl.Own w o n (fun i => .int .u32 (d i)) → Calls Tryd.prog 28 #[.slice (some ⟨o, 0, none⟩) n c, .int .i64 m] w fun r w' => r = .returned (.tuple #[.int .u32 R, .bool (goodM n m)]) ∧ Below w.heap.size w w') := by
  cases hg : goodM n m
  · exact ⟨0, fun w o c O => s26x n _ c m w hg, fun w o c _ O => i28x n _ c m w hg⟩
  have pl := pk_le d m n
  have hn := good16 hg
  by_cases hm : m = 0
  · have e : pk d m n = [] := by rw [hm]; exact pk_zero d n
    refine ⟨0, fun w o c O => s26 n o c d m 0 w hg O.hi O.cell (fun v x OW => ?_), fun w o c _ O => i28z n _ c m w hg hm⟩
    rw [e] at OW
    rcases shape3 OW with ⟨rfl, _⟩ | ⟨g, cap, rfl, _⟩
    · exact tree0 _ _ v
    · exact tree0 _ _ v
  · have ne := pk_some d hg hm
    have l1 : 1 ≤ (pk d m n).length := List.length_pos_iff.2 ne
    obtain ⟨R, _, hs, hi⟩ := tree (pk d m n).length l1 (by omega) (fun i => (pk d m n).getD i 0) (fun i => pk_getD d m hd n i)
    refine ⟨R, fun w o c O => s26 n o c d m R w hg O.hi O.cell (fun v x OW => ?_), fun w o c F O => i28 n o c d m R w F hg hm O.hi O.cell (fun v x b Fv OW => ?_)⟩
    · rcases shape3 OW with ⟨_, h0⟩ | ⟨g, cap, rfl, lg, hcap, h9, hc⟩
      · omega
      · exact hs v g 0 cap lg hcap h9 hc
    · rcases shape3 OW with ⟨_, h0⟩ | ⟨g, cap, rfl, lg, hcap, h9, hc⟩
      · omega
      · exact hi v g 0 cap Fv lg hcap h9 hc
set_option maxHeartbeats 2000000 in
theorem walk (w : World) (F : Forms w) (s0 : Option Addr) (n0 c0 : Nat) (f0 : Nat → Int) (m0 : n0 ≤ 9223372036854775807) (A0 : Arg w s0 n0 (fun i => .int .u32 (f0 i))) (z0 : ∀ i, (Lit.int .u32 (f0 i)).wf = true) (a1 : Int) (w1 : (Lit.int .i64 a1).wf = true) :
    Calls Tryd.prog 8 #[.slice s0 n0 c0, .int .i64 a1] w fun e w' => e = .returned (.bool true) ∧ Below w.heap.size w w' := by
  by_cases big : 1048576 < n0
  · have big' : (1048576 : Int) < (n0 : Int) := by omega
    go_enter Tryd.func8, Tryd.ntmps8
    go_wp2
    go_ret
    exact ⟨rfl, Below.refl _ _⟩
  have hn : n0 ≤ 1048576 := by omega
  have hn' : (n0 : Int) ≤ 1048576 := by omega
  obtain ⟨R, hs, hi⟩ := both n0 f0 a1 (fun i => by have := bounds_u32 (z0 i); exact ⟨by omega, by omega⟩)
  obtain ⟨gm, hgm⟩ : ∃ g, goodM n0 a1 = g := ⟨_, rfl⟩
  rw [hgm] at hs hi
  have HS : Hid (∀ (w : World) (o c : Nat), Pl.Own w o n0 (fun i => .int .u32 (f0 i)) → Calls Tryd.prog 26 #[.slice (some ⟨o, 0, none⟩) n0 c, .int .i64 a1] w fun r w' => r = .returned (.tuple #[.int .u32 R, .bool gm]) ∧ Below w.heap.size w w') := hs
  have HI : Hid (∀ (w : World) (o c : Nat), Forms w → Pl.Own w o n0 (fun i => .int .u32 (f0 i)) → Calls Tryd.prog 28 #[.slice (some ⟨o, 0, none⟩) n0 c, .int .i64 a1] w fun r w' => r = .returned (.tuple #[.int .u32 R, .bool gm]) ∧ Below w.heap.size w w') := hi
  have HF : Hid (Forms w) := F
  clear hs hi hgm F
  cases gm
  all_goals
    go_enter Tryd.func8, Tryd.ntmps8
    go_wp2_with (first | (go_at_call 27; (with_reducible show Calls Tryd.prog 27 _ w _); refine (argU (w := w) A0 c0 hn).mono ?_; rintro e w1 ⟨rfl, O1, B1⟩) | (go_at_call 26; refine ((Hid.out HS) w1 _ _ O1).mono ?_; rintro e w2 ⟨rfl, B2'⟩; have B2 := B1.trans (B2'.mono B1.size); have A2 := A0.next B2) | (go_at_call 27; (with_reducible show Calls Tryd.prog 27 _ w2 _); refine (argU (w := w2) A2 c0 hn).mono ?_; rintro e w3 ⟨rfl, O3, B3'⟩; have B3 := B2.trans (B3'.mono B2.size)) | (go_at_call 28; refine ((Hid.out HI) w3 _ _ (HF.out.below B3) O3).mono ?_; rintro e w4 ⟨rfl, B4'⟩; have B4 := B3.trans (B4'.mono B3.size); have A4 := A0.next B4; have O4 := O3.next B4') | (go_at_call 27; (with_reducible show Calls Tryd.prog 27 _ w4 _); refine (argU (w := w4) A4 c0 hn).mono ?_; rintro e w5 ⟨rfl, O5, B5'⟩; have B5 := B4.trans (B5'.mono B4.size)) | (go_at_call 29; refine (eqU n0 w2.heap.size w4.heap.size n0 n0 f0 w5 hn (O4.next B5').cell O5.cell).mono ?_; rintro e w6 ⟨rfl, q, rfl⟩))
    go_ret
    exact ⟨rfl, below_drewN B5 q⟩
theorem laid_met (os : Os) : laidMet Tryd.prog Rows.fnExactSumFloatsRow.laid ((laidWorld os).forCall (fun _ _ => 0) ⟨#[], #[.slice none 0 0, .int .i64 0], []⟩).memory :=
  laidMet_of_run' 8 (by kernel_rfl) (by kernel_rfl)
set_option maxRecDepth 100000 in
theorem lifted (os : Os) (started : os.Started) (H : Type) (enc : TypeId × Value → H) :
    ReturnsInHanded {} Tryd.checked os 8 .any (fun w args => (Rows.fnExactSumFloatsSpec.pre enc Tryd.prog Tryd.f8 [] false w args ∧ laidMetH Tryd.prog Rows.fnExactSumFloatsRow.laid w) ∧ sizedMet enc Tryd.prog Tryd.f8 (OpenSpec.ofChange Rows.fnExactSumFloatsSpec) false w args)
      (Rows.fnExactSumFloatsSpec.post enc Tryd.prog Tryd.f8 false true false false) := by
  refine returnsInHanded_of_change_and (C := Tryd.checked) (X := fun w _ => laidMetH Tryd.prog Rows.fnExactSumFloatsRow.laid w) (fun _ _ _ hh h => h.of_heap hh) own started (by kernel_rfl) Tryd.func8
    (ChangeSpec.witness_at (enc := enc) (C := Tryd.checked) (os := os) (X := fun w _ => laidMetH Tryd.prog Rows.fnExactSumFloatsRow.laid w) false (laidWorld os) #[.slice none 0 0, .int .i64 0] 8 rfl (by kernel_rfl) (by kernel_rfl) (by kernel_rfl) (by kernel_rfl) (by kernel_rfl) (laid_met os)) ?_
  intro W base args ds gs before hval0 hW _ _ hL _
  have hval : ∀ (j : Nat) t v, Tryd.f8.params[j]? = some t → args[j]? = some v → Value.okWide Tryd.prog W .any base t v := hval0
  have hW' := hW
  obtain ⟨p, q, hA0, hV0, rfl, hfz, hnd⟩ := hW
  have hA : DataW.TrodAll enc Tryd.prog W 0 (fun _ => true) true Tryd.f8.params.toList args.toList ds p := hA0
  have hV : DataW.TrodVars enc Tryd.prog W (fun _ => true) ["loop.example/g00053/impl.floatForms"] gs q := hV0
  rw [Tryd.params8] at hA hval
  obtain ⟨v0, vs0, d0, ds0, p0, q0, hargs, rfl, rfl, h0, r0⟩ := trodAll_cons hA
  obtain ⟨v1, vs1, d1, ds1, p1, q1, rfl, rfl, rfl, h1, r1⟩ := trodAll_cons r0
  obtain ⟨rfl, rfl, rfl⟩ := trodAll_nil r1
  obtain rfl : args = #[v0, v1] := by cases args; simp_all
  have k0 := h0
  have lt0 : ∀ x ∈ p0, x.block < W.heap.size := fun x hx => by have := hW'.lt x (by simp [hx]); simpa using this
  obtain ⟨s0, n0, c0, f0, rfl, m0, A0, z0⟩ := view_ints Tryd.underlying42 Tryd.underlying22 (by kernel_rfl) (hval 0 42 v0 rfl rfl) h0 lt0
  obtain ⟨a1, rfl, rfl, rfl, w1⟩ := open_int Tryd.underlying3 (hval 1 3 v1 rfl rfl) h1
  obtain ⟨g, t, cs, fuel, d, p', rfl, hg, ht, hvar, hd, rfl⟩ := trodVars_one hV
  obtain rfl := Option.some.inj (gTab.symm.trans hg)
  obtain rfl := Option.some.inj (gTabType.symm.trans ht)
  obtain rfl : cs = cells8 := Option.some.inj (hvar.symm.trans (cells_of_laid hL))
  obtain ⟨rfl, rfl⟩ := DataW.Trod.unique (v := .agg cells8) ⟨fuel, hd⟩ ⟨4, reads_table enc W _⟩
  clear hA0 hV0 hval0
  refine (walk W (forms_of_laid hL) s0 n0 c0 f0 m0 A0 z0 a1 w1).mono fun e W' ⟨he, bel⟩ => ?_
  subst he
  have hv' : W'.var? Tryd.prog "loop.example/g00053/impl.floatForms" = some cells8 := var?_below bel gTab (forms_of_laid hL).pos hvar
  have arg0 := Below.trod laidOut (by kernel_rfl) (of_decide_eq_true (by kernel_rfl)) k0 bel lt0
  exact ⟨_, rfl, _, _, _, [], _, MemPlace.row ⟨0, 0, none⟩ cells8.size ++ [] ++ [], hW', trodAll_cons_mk (shut_bool Tryd.underlying4 _) trodAll_mk0, trodAll_cons_mk arg0 (trodAll_cons_mk (shut_int Tryd.underlying3 w1) trodAll_mk0), ⟨0, 76, cells8, 4, [], [], hg, ht, hv', reads_table enc W' _, rfl, rfl⟩, bel.frame _, fun h => by cases h⟩
theorem said : Rows.FnExactSumFloatsSaid :=
  OpenClaim.holds_of_wide 8 Tryd.f8 rfl rfl rfl rfl rfl rfl rfl ⟨rfl, rfl, rfl, rfl, rfl⟩ rfl rfl rfl rfl rfl (by kernel_rfl) Tryd.func8 (by kernel_rfl)
    (of_decide_eq_true (by kernel_rfl)) (by unfold Func.isWrapper; first | (rw [if_pos (by decide +kernel)]; kernel_rfl) | (rw [if_neg (by decide +kernel)]; exact ⟨rfl, rfl⟩))
    (fun os started H enc _ => lifted os started H enc)
theorem plain (f : FuncId) (fn : Func) (hf : Tryd.pinned.checked.prog.funcNamed "loop.example/g00053/laws.FnExactSumFloats" = some f) (hfn : Tryd.pinned.checked.prog.funcs[f]? = some fn) :
    false = Tryd.pinned.checked.prog.looks [] ∧ ∀ (j : Nat) t, fn.params[j]? = some t → Tryd.pinned.checked.prog.wantsStandIn t = false := by
  obtain rfl : f = 8 := Option.some.inj ((show Tryd.prog.funcNamed "loop.example/g00053/laws.FnExactSumFloats" = some 8 by kernel_rfl).symm.trans hf) |>.symm
  obtain rfl : fn = Tryd.f8 := (Option.some.inj (Tryd.func8.symm.trans hfn)).symm
  refine ⟨by kernel_rfl, fun j t ht => ?_⟩
  rw [Tryd.params8] at ht
  rcases (by simpa using Array.mem_of_getElem? ht : t = 42 ∨ t = 3) with rfl | rfl
  · exact (show Tryd.prog.wantsStandIn 42 = false by kernel_rfl)
  · exact (show Tryd.prog.wantsStandIn 3 = false by kernel_rfl)
theorem card : Rows.FnExactSumFloatsCardSaid :=
  Claim7.holds_tied_plain_at .later [] _ _ _ _ said (fun _ h => by cases h) (by kernel_rfl) (fun _ h => by cases h) fnExactSumFloats_row_tie rfl ⟨rfl, rfl⟩ (by kernel_rfl) rfl plain (by kernel_rfl)
end Go.Proofs.YtlcfpcapefeajaaDoor.fnExactSumFloats
namespace Go.Proofs.YtlcfpcapefeajaaDoor
theorem sum_floats_holds : Rows.FnExactSumFloatsCardSaid := fnExactSumFloats.card
#print axioms sum_floats_holds
end Go.Proofs.YtlcfpcapefeajaaDoor
