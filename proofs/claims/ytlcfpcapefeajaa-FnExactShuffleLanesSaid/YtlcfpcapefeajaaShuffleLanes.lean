/- Proved: for every list of words, every list of ints and every mask the law FnExactShuffleLanes returns true (ShuffleLanes answers as its model, writes nothing into its arguments, and its answer is memory of its own) and the arguments read afterwards as before; no conditions. -/
import Derived.Test.YtlcfpcapefeajaaRows
import Derived.Test.YtlcfpcapefeajaaShuf
import Derived.Test.YtlcfpcapefeajaaMark
namespace Go.Proofs.Ytlcfpcapefeajaa.fnExactShuffleLanes
open Go.ChangeShapes Go.WideShapes Go.ChangeAt Go.RowKit
set_option linter.unusedVariables false
theorem own : ownKnob Try.prog.godebug = none := by kernel_rfl
theorem laidOut : laidOutB Try.prog = true := by kernel_rfl
theorem mark1 {n a : Nat} {f : Nat → Value} {w : World} (O : Own w a n f) (ca : Nat) (hn : n ≤ 1048576) :
    Calls Try.prog 21 #[.slice (some ⟨a, 0, none⟩) n ca, .int .i64 1] w fun r w' => r = .returned (.int .i64 (1 + (n : Int))) ∧ Own w' a n (fun i => .int .u32 ((1 + i : Nat) : Int)) ∧ Only a w w' :=
  (mark21 O ca 1 hn (by omega)).mono fun e w' ⟨h1, h2, h3⟩ => ⟨h1.trans (by rw [Int.natCast_add]; rfl), h2, h3⟩
theorem held1 {n a : Nat} {w : World} (ca : Nat) (O : Own w a n (fun i => .int .u32 ((1 + i : Nat) : Int))) (hn : n ≤ 1048576) :
    Calls Try.prog 23 #[.slice (some ⟨a, 0, none⟩) n ca, .int .i64 1] w fun r w' => r = .returned (.int .i64 (1 + (n : Int))) ∧ w' = w :=
  (held23 ca 1 O hn (by omega)).mono fun e w' ⟨h1, h2⟩ => ⟨h1.trans (by rw [Int.natCast_add]; rfl), h2⟩
theorem mark2 {n p a : Nat} {f : Nat → Value} {w : World} (O : Own w a p f) (ca : Nat) (hn : n ≤ 1048576) (hp : p ≤ 1048576) :
    Calls Try.prog 22 #[.slice (some ⟨a, 0, none⟩) p ca, .int .i64 (1 + (n : Int))] w fun r w' => r = .returned (.int .i64 (1 + (n : Int) + (p : Int))) ∧ Only a w w' := by
  have h := mark22 O ca (1 + n) hp (by omega)
  rw [show (((1 + n : Nat) : Int)) = 1 + (n : Int) by omega] at h
  exact h.mono fun e w' ⟨h1, h2, h3⟩ => ⟨h1.trans (by rw [show (((1 + n + p : Nat) : Int)) = 1 + (n : Int) + (p : Int) by omega]), h3⟩

set_option maxHeartbeats 4000000 in
theorem walk0 (w : World) (s0 : Option Addr) (n0 c0 : Nat) (f0 : Nat → Int) (A0 : Arg w s0 n0 (fun i => .int .u32 (f0 i))) (s1 : Option Addr) (n1 c1 : Nat) (f1 : Nat → Int) (A1 : Arg w s1 n1 (fun i => .int .i64 (f1 i))) (a2 : Int) (hn : n0 ≤ 1048576) (hn' : (n0 : Int) ≤ 1048576) (hp : n1 ≤ 1048576) (hp' : (n1 : Int) ≤ 1048576) (pos' : ¬ (1 + (n0 : Int)) < 0) (pos2 : ¬ (1 + (n0 : Int) + (n1 : Int)) < 0) (hg : ¬ (goodM n0 a2 = true ∧ n0 = n1)) :
    Calls Try.prog 5 #[.slice s0 n0 c0, .slice s1 n1 c1, .int .i64 a2] w fun e w' => e = .returned (.bool true) ∧ Below w.heap.size w w' := by
  go_enter Try.func5, Try.ntmps5
  go_wp2_with (first | (go_at_call 16; (with_reducible show Calls Try.prog 16 _ w _); refine (argU (w := w) A0 c0 hn).mono ?_; rintro e w1 ⟨rfl, O1, B1⟩; have D1 := A1.next B1) | (go_at_call 17; (with_reducible show Calls Try.prog 17 _ w1 _); refine (argI (w := w1) D1 c1 hp).mono ?_; rintro e w2 ⟨rfl, P2, C2⟩; have B2 := B1.trans (C2.mono B1.size); have O2 := O1.next C2; have A2 := A0.next B2) | (go_at_call 15; (with_reducible show Calls Try.prog 15 _ w2 _); refine (shu15x n0 n1 _ _ n0 n1 a2 w2 hg).mono ?_; rintro e w3 ⟨rfl, hw⟩; (have C3 : Below w2.heap.size w2 w3 := by rw [hw]; exact Below.refl _ _); clear hw; have B3 := B2.trans (C3.mono B2.size); have A3 := A0.next B3) | (go_at_call 16; (with_reducible show Calls Try.prog 16 _ w3 _); refine (argU (w := w3) A3 c0 hn).mono ?_; rintro e w4 ⟨rfl, O4, C4⟩; have B4 := B3.trans (C4.mono B3.size); have D4 := A1.next B4) | (go_at_call 17; (with_reducible show Calls Try.prog 17 _ w4 _); refine (argI (w := w4) D4 c1 hp).mono ?_; rintro e w5 ⟨rfl, P5, C5⟩; have B5 := B4.trans (C5.mono B4.size); have O5 := O4.next C5) | (go_at_call 18; (with_reducible show Calls Try.prog 18 _ w5 _); refine (shu18x n0 n1 _ _ n0 n1 a2 w5 hg).mono ?_; rintro e w7 ⟨rfl, hw⟩; (have C7 : Below w5.heap.size w5 w7 := by rw [hw]; exact Below.refl _ _); clear hw; have B7 := B5.trans (C7.mono B5.size); have X7 := O5.next C7; have P7 := P5.next C7; have A7 := A0.next B7) | (go_at_call 19; (with_reducible show Calls Try.prog 19 #[Value.slice none 0 0, Value.slice none 0 0] _ _); refine (eqU0 none none 0 0 _).mono ?_; rintro e wz ⟨rfl, hw⟩; subst wz) | (go_at_call 16; (with_reducible show Calls Try.prog 16 _ w7 _); refine (argU (w := w7) A7 c0 hn).mono ?_; rintro e w8 ⟨rfl, O8, C8⟩; have B8 := B7.trans (C8.mono B7.size); have X8 := X7.next C8; have P8 := P7.next C8) | (go_at_call 19; (with_reducible show Calls Try.prog 19 _ w8 _); refine (sameU X8 O8 n0 n0 hn).mono ?_; rintro e w9 ⟨rfl, C9⟩; have B9 := B8.trans (C9.mono B8.size); have D9 := A1.next B9; have X9 := X8.next C9; have P9 := P8.next C9) | (go_at_call 17; (with_reducible show Calls Try.prog 17 _ w9 _); refine (argI (w := w9) D9 c1 hp).mono ?_; rintro e w10 ⟨rfl, P10', C10⟩; have B10 := B9.trans (C10.mono B9.size); have X10 := X9.next C10; have P10 := P9.next C10) | (go_at_call 20; (with_reducible show Calls Try.prog 20 _ w10 _); refine (sameI P10 P10' n1 n1 hp).mono ?_; rintro e w11 ⟨rfl, C11⟩; have B11 := B10.trans (C11.mono B10.size); have X11 := X10.next C11; have P11 := P10.next C11) | (go_at_call 21; (with_reducible show Calls Try.prog 21 _ w11 _); refine (mark1 X11 n0 hn).mono ?_; rintro e w12 ⟨rfl, X12, C12⟩; (have m0 : w4.heap.size ≠ w3.heap.size := by have := O4.hi; omega); have P12 := P11.but C12 m0; have B12 := B11.trans (C12.below (B := w.heap.size) B3.size B11.size)) | (go_at_call 22; (with_reducible show Calls Try.prog 22 _ w12 _); refine (mark2 (n := n0) P12 n1 hn hp).mono ?_; rintro e w13 ⟨rfl, C13⟩; have B13 := B12.trans (C13.below (B := w.heap.size) B4.size B12.size); have A13 := A0.next (B12.trans (C13.below (B := w.heap.size) B4.size B12.size))) | (go_at_call 21; (with_reducible show Calls Try.prog 21 _ w13 _); refine (mark21n none 0 1 w13).mono ?_; rintro e wz ⟨rfl, hw⟩; subst wz) | (go_at_call 23; refine (held23n none 0 1 _).mono ?_; rintro e wz ⟨rfl, hw⟩; subst wz) | (go_at_call 16; (with_reducible show Calls Try.prog 16 _ w13 _); refine (argU (w := w13) A13 c0 hn).mono ?_; rintro e w16 ⟨rfl, O16, C16⟩; have B16 := B13.trans (C16.mono B13.size); have D16 := A1.next B16) | (go_at_call 17; (with_reducible show Calls Try.prog 17 _ w16 _); refine (argI (w := w16) D16 c1 hp).mono ?_; rintro e w17 ⟨rfl, P17, C17⟩; have B19 := B16.trans (C17.mono B16.size)) | (go_at_call 18; (with_reducible show Calls Try.prog 18 _ w17 _); refine (shu18x n0 n1 _ _ n0 n1 a2 w17 hg).mono ?_; rintro e wz ⟨rfl, hw⟩; subst wz))
  go_ret
  exact ⟨rfl, B19⟩
set_option maxHeartbeats 4000000 in
theorem walk1 (w : World) (s0 : Option Addr) (n0 c0 : Nat) (f0 : Nat → Int) (A0 : Arg w s0 n0 (fun i => .int .u32 (f0 i))) (s1 : Option Addr) (c1 : Nat) (f1 : Nat → Int) (A1 : Arg w s1 n0 (fun i => .int .i64 (f1 i))) (a2 : Int) (hn : n0 ≤ 1048576) (hn' : (n0 : Int) ≤ 1048576) (pos' : ¬ (1 + (n0 : Int)) < 0) (pos2 : ¬ (1 + (n0 : Int) + (n0 : Int)) < 0) (hg : goodM n0 a2 = true) :
    Calls Try.prog 5 #[.slice s0 n0 c0, .slice s1 n0 c1, .int .i64 a2] w fun e w' => e = .returned (.bool true) ∧ Below w.heap.size w w' := by
  go_enter Try.func5, Try.ntmps5
  go_wp2_with (first | (go_at_call 16; (with_reducible show Calls Try.prog 16 _ w _); refine (argU (w := w) A0 c0 hn).mono ?_; rintro e w1 ⟨rfl, O1, B1⟩; have D1 := A1.next B1) | (go_at_call 17; (with_reducible show Calls Try.prog 17 _ w1 _); refine (argI (w := w1) D1 c1 hn).mono ?_; rintro e w2 ⟨rfl, P2, C2⟩; have B2 := B1.trans (C2.mono B1.size); have O2 := O1.next C2; have A2 := A0.next B2) | (go_at_call 15; (with_reducible show Calls Try.prog 15 _ w2 _); refine (shu15 O2 P2 n0 n0 a2 hg).mono ?_; rintro e w3 ⟨g3, p3, rfl, l3, S3, C3⟩; have B3 := B2.trans (C3.mono B2.size); have A3 := A0.next B3) | (go_at_call 16; (with_reducible show Calls Try.prog 16 _ w3 _); refine (argU (w := w3) A3 c0 hn).mono ?_; rintro e w4 ⟨rfl, O4, C4⟩; have B4 := B3.trans (C4.mono B3.size); have D4 := A1.next B4; have S4 := S3.next C4) | (go_at_call 17; (with_reducible show Calls Try.prog 17 _ w4 _); refine (argI (w := w4) D4 c1 hn).mono ?_; rintro e w5 ⟨rfl, P5, C5⟩; have B5 := B4.trans (C5.mono B4.size); have O5 := O4.next C5; have S5 := S4.next C5) | (go_at_call 18; (with_reducible show Calls Try.prog 18 _ w5 _); refine (shu18 O5 P5 n0 n0 a2 hg).mono ?_; rintro e w6 ⟨g6, p6, rfl, l6, G6, C6⟩; have B6 := B5.trans (C6.mono B5.size); have S6 := S5.next C6; have X6 := O5.next C6; have P6 := P5.next C6) | (go_at_call 19; (with_reducible show Calls Try.prog 19 _ w6 _); refine (sameU G6 S6 p6 p3 hn).mono ?_; rintro e w7 ⟨rfl, C7⟩; have B7 := B6.trans (C7.mono B6.size); have S7 := S6.next C7; have X7 := X6.next C7; have P7 := P6.next C7; have G7 := G6.next C7; have A7 := A0.next B7) | (go_at_call 16; (with_reducible show Calls Try.prog 16 _ w7 _); refine (argU (w := w7) A7 c0 hn).mono ?_; rintro e w8 ⟨rfl, O8, C8⟩; have B8 := B7.trans (C8.mono B7.size); have X8 := X7.next C8; have P8 := P7.next C8; have S8 := S7.next C8; have G8 := G7.next C8) | (go_at_call 19; (with_reducible show Calls Try.prog 19 _ w8 _); refine (sameU X8 O8 n0 n0 hn).mono ?_; rintro e w9 ⟨rfl, C9⟩; have B9 := B8.trans (C9.mono B8.size); have D9 := A1.next B9; have X9 := X8.next C9; have P9 := P8.next C9; have S9 := S8.next C9; have G9 := G8.next C9) | (go_at_call 17; (with_reducible show Calls Try.prog 17 _ w9 _); refine (argI (w := w9) D9 c1 hn).mono ?_; rintro e w10 ⟨rfl, P10', C10⟩; have B10 := B9.trans (C10.mono B9.size); have X10 := X9.next C10; have P10 := P9.next C10; have S10 := S9.next C10; have G10 := G9.next C10) | (go_at_call 20; (with_reducible show Calls Try.prog 20 _ w10 _); refine (sameI P10 P10' n0 n0 hn).mono ?_; rintro e w11 ⟨rfl, C11⟩; have B11 := B10.trans (C11.mono B10.size); have X11 := X10.next C11; have P11 := P10.next C11; have S11 := S10.next C11; have G11 := G10.next C11) | (go_at_call 21; (with_reducible show Calls Try.prog 21 _ w11 _); refine (mark1 X11 n0 hn).mono ?_; rintro e w12 ⟨rfl, X12, C12⟩; (have m0 : w4.heap.size ≠ w3.heap.size := by have := O4.hi; omega); have P12 := P11.but C12 m0; have B12 := B11.trans (C12.below (B := w.heap.size) B3.size B11.size); (have m1 : g3 ≠ w3.heap.size := by have := S3.hi; omega); (have m2 : g6 ≠ w3.heap.size := by have := O5.hi; omega); have S12 := S11.but C12 m1; have G12 := G11.but C12 m2) | (go_at_call 22; (with_reducible show Calls Try.prog 22 _ w12 _); refine (mark2 (n := n0) P12 n0 hn hn).mono ?_; rintro e w13 ⟨rfl, C13⟩; have B13 := B12.trans (C13.below (B := w.heap.size) B4.size B12.size); (have m3 : g3 ≠ w4.heap.size := by have := S4.hi; omega); (have m4 : g6 ≠ w4.heap.size := by have := P5.hi; omega); have S13 := S12.but C13 m3; have G13 := G12.but C13 m4) | (go_at_call 19; (with_reducible show Calls Try.prog 19 _ w13 _); refine (sameU G13 S13 p6 p3 hn).mono ?_; rintro e w14 ⟨rfl, C14⟩; have B14 := B13.trans (C14.mono B13.size); have S14 := S13.next C14; have G14 := G13.next C14) | (go_at_call 21; (with_reducible show Calls Try.prog 21 _ w14 _); refine (mark1 G14 p6 hn).mono ?_; rintro e w15 ⟨rfl, G15, C15⟩; (have m5 : g3 ≠ g6 := by have := S5.hi; omega); have S15 := S14.but C15 m5; (have l6' : w.heap.size ≤ g6 := by have := B5.size; omega); have B15 := B14.trans (C15.below (B := w.heap.size) l6' B14.size); have A15 := A0.next B15) | (go_at_call 23; (with_reducible show Calls Try.prog 23 _ w15 _); refine (held1 p6 G15 hn).mono ?_; rintro e wz ⟨rfl, hw⟩; subst wz) | (go_at_call 16; (with_reducible show Calls Try.prog 16 _ w15 _); refine (argU (w := w15) A15 c0 hn).mono ?_; rintro e w16 ⟨rfl, O16, C16⟩; have B16 := B15.trans (C16.mono B15.size); have D16 := A1.next B16; have S16 := S15.next C16; have G16 := G15.next C16) | (go_at_call 17; (with_reducible show Calls Try.prog 17 _ w16 _); refine (argI (w := w16) D16 c1 hn).mono ?_; rintro e w17 ⟨rfl, P17, C17⟩; have B17 := B16.trans (C17.mono B16.size); have O17 := O16.next C17; have S17 := S16.next C17; have G17 := G16.next C17) | (go_at_call 18; (with_reducible show Calls Try.prog 18 _ w17 _); refine (shu18 O17 P17 n0 n0 a2 hg).mono ?_; rintro e w18 ⟨g18, p18, rfl, l18, H18, C18⟩; have B18 := B17.trans (C18.mono B17.size); have S18 := S17.next C18; have G18 := G17.next C18) | (go_at_call 19; (with_reducible show Calls Try.prog 19 _ w18 _); refine (sameU H18 S18 p18 p3 hn).mono ?_; rintro e w19 ⟨rfl, C19⟩; have B19 := B18.trans (C19.mono B18.size); have G19 := G18.next C19) | (go_at_call 23; (with_reducible show Calls Try.prog 23 _ w19 _); refine (held1 p6 G19 hn).mono ?_; rintro e wz ⟨rfl, hw⟩; subst wz))
  go_ret
  exact ⟨rfl, B19⟩

set_option maxHeartbeats 2000000 in
theorem walk (w : World) (s0 : Option Addr) (n0 c0 : Nat) (f0 : Nat → Int) (m0 : n0 ≤ 9223372036854775807) (A0 : Arg w s0 n0 (fun i => .int .u32 (f0 i))) (z0 : ∀ i, (Lit.int .u32 (f0 i)).wf = true) (s1 : Option Addr) (n1 c1 : Nat) (f1 : Nat → Int) (m1 : n1 ≤ 9223372036854775807) (A1 : Arg w s1 n1 (fun i => .int .i64 (f1 i))) (z1 : ∀ i, (Lit.int .i64 (f1 i)).wf = true) (a2 : Int) (w2 : (Lit.int .i64 a2).wf = true) :
    Calls Try.prog 5 #[.slice s0 n0 c0, .slice s1 n1 c1, .int .i64 a2] w fun e w' => e = .returned (.bool true) ∧ Below w.heap.size w w' := by
  by_cases big : 1048576 < n0
  · have big' : (1048576 : Int) < (n0 : Int) := by omega
    go_enter Try.func5, Try.ntmps5
    go_wp2
    go_ret
    exact ⟨rfl, Below.refl _ _⟩
  have hn : n0 ≤ 1048576 := by omega
  have hn' : (n0 : Int) ≤ 1048576 := by omega
  by_cases big1 : 1048576 < n1
  · have big' : (1048576 : Int) < (n1 : Int) := by omega
    go_enter Try.func5, Try.ntmps5
    go_wp2
    go_ret
    exact ⟨rfl, Below.refl _ _⟩
  have hp : n1 ≤ 1048576 := by omega
  have hp' : (n1 : Int) ≤ 1048576 := by omega
  by_cases hg : goodM n0 a2 = true ∧ n0 = n1
  · obtain ⟨hg, rfl⟩ := hg
    exact walk1 w s0 n0 c0 f0 A0 s1 c1 f1 A1 a2 hn hn' (by omega) (by omega) hg
  · exact walk0 w s0 n0 c0 f0 A0 s1 n1 c1 f1 A1 a2 hn hn' hp hp' (by omega) (by omega) hg

set_option maxRecDepth 100000 in
theorem lifted (os : Os) (started : os.Started) (H : Type) (enc : TypeId × Value → H) :
    ReturnsInHanded {} Try.checked os 5 .any (Rows.fnExactShuffleLanesSpec.pre6 enc Try.prog Try.f5 Rows.fnExactShuffleLanesRow.domain false) (Rows.fnExactShuffleLanesSpec.post enc Try.prog Try.f5 false true false false) := by
  refine returnsInHanded_of_change (C := Try.checked) own started (by kernel_rfl) Try.func5
    (ChangeSpec.witness6 (enc := enc) (C := Try.checked) false ⟨#[], #[.slice none 0 0, .slice none 0 0, .int .i64 0], []⟩ 8 (by kernel_rfl) (by kernel_rfl) (by kernel_rfl) (by kernel_rfl)) ?_
  intro W base args ds gs before hval0 hW hcnd _
  have hval : ∀ (j : Nat) t v, Try.f5.params[j]? = some t → args[j]? = some v → Value.okWide Try.prog W .any base t v := hval0
  have hW' := hW
  obtain ⟨p, q, hA0, hV, rfl, hfz, hnd⟩ := hW
  have hA : DataW.TrodAll enc Try.prog W 0 (fun _ => true) true Try.f5.params.toList args.toList ds p := hA0
  rw [Try.params5] at hA hval
  obtain ⟨v0, vs0, d0, ds0, p0, q0, hargs, rfl, rfl, h0, r0⟩ := trodAll_cons hA
  obtain ⟨v1, vs1, d1, ds1, p1, q1, rfl, rfl, rfl, h1, r1⟩ := trodAll_cons r0
  obtain ⟨v2, vs2, d2, ds2, p2, q2, rfl, rfl, rfl, h2, r2⟩ := trodAll_cons r1
  obtain ⟨rfl, rfl, rfl⟩ := trodAll_nil r2
  obtain rfl : args = #[v0, v1, v2] := by cases args; simp_all
  obtain ⟨rfl, rfl⟩ := trodVars_none hV
  simp only [List.append_nil] at hW'
  have k0 := h0
  have lt0 : ∀ x ∈ p0, x.block < W.heap.size := fun x hx => by have := hW'.lt x (by simp [hx]); simpa using this
  obtain ⟨s0, n0, c0, f0, rfl, m0, A0, z0⟩ := view_ints Try.underlying28 Try.underlying39 (by kernel_rfl) (hval 0 28 v0 rfl rfl) h0 lt0
  have arg0 : ∀ (W' : World), Below W.heap.size W W' → DataW.Trod enc Try.prog W' 0 (fun b => decide (b < W.heap.size)) true 28 (.slice s0 n0 c0) d0 p0 := fun W' hn => Below.trod laidOut (by kernel_rfl) (of_decide_eq_true (by kernel_rfl)) k0 hn lt0
  have k1 := h1
  have lt1 : ∀ x ∈ p1, x.block < W.heap.size := fun x hx => by have := hW'.lt x (by simp [hx]); simpa using this
  obtain ⟨s1, n1, c1, f1, rfl, m1, A1, z1⟩ := view_ints Try.underlying29 Try.underlying3 (by kernel_rfl) (hval 1 29 v1 rfl rfl) h1 lt1
  have arg1 : ∀ (W' : World), Below W.heap.size W W' → DataW.Trod enc Try.prog W' 0 (fun b => decide (b < W.heap.size)) true 29 (.slice s1 n1 c1) d1 p1 := fun W' hn => Below.trod laidOut (by kernel_rfl) (of_decide_eq_true (by kernel_rfl)) k1 hn lt1
  obtain ⟨a2, rfl, rfl, rfl, w2⟩ := open_int Try.underlying3 (hval 2 3 v2 rfl rfl) h2
  clear hA0 hval0
  refine (walk W s0 n0 c0 f0 m0 A0 z0 s1 n1 c1 f1 m1 A1 z1 a2 w2).mono fun e W' ⟨he, hg⟩ => ?_
  subst he
  refine ⟨_, rfl, _, _, _, [], p0 ++ (p1 ++ ([] ++ [])), [], hW', (trodAll_cons_mk (shut_bool Try.underlying4 _) trodAll_mk0), (trodAll_cons_mk (arg0 _ hg) (trodAll_cons_mk (arg1 _ hg) (trodAll_cons_mk (shut_int Try.underlying3 w2) trodAll_mk0))), rfl, hg.frame _, fun h => by cases h⟩
theorem over : Rows.fnExactShuffleLanesRow.holds Try.pinned (OpenSpec.ofChange Rows.fnExactShuffleLanesSpec) :=
  OpenClaim.holds_of_wide 5 Try.f5 rfl rfl rfl rfl rfl rfl rfl ⟨rfl, rfl, rfl, rfl, rfl⟩ rfl rfl rfl rfl rfl (by kernel_rfl) Try.func5 (by kernel_rfl)
    (of_decide_eq_true (by kernel_rfl)) (by unfold Func.isWrapper; first | (rw [if_pos (by decide +kernel)]; kernel_rfl) | (rw [if_neg (by decide +kernel)]; exact ⟨rfl, rfl⟩))
    (fun os started H enc _ => lifted os started H enc)
end Go.Proofs.Ytlcfpcapefeajaa.fnExactShuffleLanes
namespace Go.Proofs.Ytlcfpcapefeajaa
theorem shuffle_lanes_holds : Rows.FnExactShuffleLanesSaid := fnExactShuffleLanes.over
#print axioms shuffle_lanes_holds
end Go.Proofs.Ytlcfpcapefeajaa
