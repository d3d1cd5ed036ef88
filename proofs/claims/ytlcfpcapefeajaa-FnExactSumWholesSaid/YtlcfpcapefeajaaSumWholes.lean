/- Proved: for every list of words and every mask the law FnExactSumWholes returns true (SumWholes answers as its model, and writes nothing into its argument) and the arguments read afterwards as before; no conditions. -/
import Derived.Test.YtlcfpcapefeajaaRows
import Derived.Test.YtlcfpcapefeajaaSum
import Derived.Test.YtlcfpcapefeajaaView
namespace Go.Proofs.Ytlcfpcapefeajaa.fnExactSumWholes
open Go.ChangeShapes Go.WideShapes Go.ChangeAt Go.RowKit
set_option linter.unusedVariables false
theorem own : ownKnob Try.prog.godebug = none := by kernel_rfl
theorem laidOut : laidOutB Try.prog = true := by kernel_rfl
theorem good16 {n : Nat} {m : Int} (h : goodM n m = true) : n ≤ 16 := by
  unfold goodM at h; simp only [decide_eq_true_eq] at h; omega
def sumV (d : Nat → Int) (n : Nat) (m : Int) : Int := if goodM n m then su (pk d m n) (pk d m n).length else 0
theorem sumS {n o : Nat} {d : Nat → Int} {w : World} (O : Own w o n (fun i => .int .u32 (d i))) (c : Nat) (m : Int) :
    Calls Try.prog 24 #[.slice (some ⟨o, 0, none⟩) n c, .int .i64 m] w fun r w' => r = .returned (.tuple #[.int .u32 (sumV d n m), .bool (goodM n m)]) ∧ Below w.heap.size w w' := by
  unfold sumV
  by_cases h : goodM n m = true
  · rw [if_pos h, h]; exact sum24 n o c d m w (good16 h) h O.hi O.cell
  · rw [if_neg h, Bool.eq_false_iff.2 h]; exact (sum24x n _ c m w (Bool.eq_false_iff.2 h)).mono fun e w' ⟨h1, h2⟩ => ⟨h1, by rw [h2]; exact Below.refl _ _⟩
theorem sumI {n o : Nat} {d : Nat → Int} {w : World} (O : Own w o n (fun i => .int .u32 (d i))) (c : Nat) (m : Int) :
    Calls Try.prog 25 #[.slice (some ⟨o, 0, none⟩) n c, .int .i64 m] w fun r w' => r = .returned (.tuple #[.int .u32 (sumV d n m), .bool (goodM n m)]) ∧ Below w.heap.size w w' := by
  unfold sumV
  by_cases h : goodM n m = true
  · rw [if_pos h, h]; exact sum25 n o c d m w (good16 h) h O.hi O.cell
  · rw [if_neg h, Bool.eq_false_iff.2 h]; exact (sum25x n _ c m w (Bool.eq_false_iff.2 h)).mono fun e w' ⟨h1, h2⟩ => ⟨h1, by rw [h2]; exact Below.refl _ _⟩

set_option maxHeartbeats 2000000 in
theorem walk (w : World) (s0 : Option Addr) (n0 c0 : Nat) (f0 : Nat → Int) (m0 : n0 ≤ 9223372036854775807) (A0 : Arg w s0 n0 (fun i => .int .u32 (f0 i))) (z0 : ∀ i, (Lit.int .u32 (f0 i)).wf = true) (a1 : Int) (w1 : (Lit.int .i64 a1).wf = true) :
    Calls Try.prog 6 #[.slice s0 n0 c0, .int .i64 a1] w fun e w' => e = .returned (.bool true) ∧ Below w.heap.size w w' := by
  by_cases big : 1048576 < n0
  · have big' : (1048576 : Int) < (n0 : Int) := by omega
    go_enter Try.func6, Try.ntmps6
    go_wp2
    go_ret
    exact ⟨rfl, Below.refl _ _⟩
  have hn : n0 ≤ 1048576 := by omega
  have hn' : (n0 : Int) ≤ 1048576 := by omega
  go_enter Try.func6, Try.ntmps6
  go_wp2_with (first | (go_at_call 16; refine (argU (w := w) A0 c0 hn).mono ?_; rintro e w1 ⟨rfl, O1, B1⟩) | (go_at_call 24; refine (sumS O1 n0 a1).mono ?_; rintro e w2 ⟨rfl, B2'⟩; have B2 := B1.trans (B2'.mono B1.size); have A2 := A0.next B2) | (go_at_call 16; refine (argU (w := w2) A2 c0 hn).mono ?_; rintro e w3 ⟨rfl, O3, B3'⟩; have B3 := B2.trans (B3'.mono B2.size)) | (go_at_call 25; refine (sumI O3 n0 a1).mono ?_; rintro e w4 ⟨rfl, B4'⟩; have B4 := B3.trans (B4'.mono B3.size); have A4 := A0.next B4; have O4 := O3.next B4') | (go_at_call 16; refine (argU (w := w4) A4 c0 hn).mono ?_; rintro e w5 ⟨rfl, O5, B5'⟩; have B5 := B4.trans (B5'.mono B4.size)) | (go_at_call 19; refine (eqU n0 w2.heap.size w4.heap.size n0 n0 f0 w5 hn (O4.next B5').cell O5.cell).mono ?_; rintro e w6 ⟨rfl, q, rfl⟩))
  go_ret
  exact ⟨rfl, below_drewN B5 q⟩

set_option maxRecDepth 100000 in
theorem lifted (os : Os) (started : os.Started) (H : Type) (enc : TypeId × Value → H) :
    ReturnsInHanded {} Try.checked os 6 .any (Rows.fnExactSumWholesSpec.pre6 enc Try.prog Try.f6 Rows.fnExactSumWholesRow.domain false) (Rows.fnExactSumWholesSpec.post enc Try.prog Try.f6 false true false false) := by
  refine returnsInHanded_of_change (C := Try.checked) own started (by kernel_rfl) Try.func6
    (ChangeSpec.witness6 (enc := enc) (C := Try.checked) false ⟨#[], #[.slice none 0 0, .int .i64 0], []⟩ 8 (by kernel_rfl) (by kernel_rfl) (by kernel_rfl) (by kernel_rfl)) ?_
  intro W base args ds gs before hval0 hW hcnd _
  have hval : ∀ (j : Nat) t v, Try.f6.params[j]? = some t → args[j]? = some v → Value.okWide Try.prog W .any base t v := hval0
  have hW' := hW
  obtain ⟨p, q, hA0, hV, rfl, hfz, hnd⟩ := hW
  have hA : DataW.TrodAll enc Try.prog W 0 (fun _ => true) true Try.f6.params.toList args.toList ds p := hA0
  rw [Try.params6] at hA hval
  obtain ⟨v0, vs0, d0, ds0, p0, q0, hargs, rfl, rfl, h0, r0⟩ := trodAll_cons hA
  obtain ⟨v1, vs1, d1, ds1, p1, q1, rfl, rfl, rfl, h1, r1⟩ := trodAll_cons r0
  obtain ⟨rfl, rfl, rfl⟩ := trodAll_nil r1
  obtain rfl : args = #[v0, v1] := by cases args; simp_all
  obtain ⟨rfl, rfl⟩ := trodVars_none hV
  simp only [List.append_nil] at hW'
  have k0 := h0
  have lt0 : ∀ x ∈ p0, x.block < W.heap.size := fun x hx => by have := hW'.lt x (by simp [hx]); simpa using this
  obtain ⟨s0, n0, c0, f0, rfl, m0, A0, z0⟩ := view_ints Try.underlying28 Try.underlying39 (by kernel_rfl) (hval 0 28 v0 rfl rfl) h0 lt0
  have arg0 : ∀ (W' : World), Below W.heap.size W W' → DataW.Trod enc Try.prog W' 0 (fun b => decide (b < W.heap.size)) true 28 (.slice s0 n0 c0) d0 p0 := fun W' hn => Below.trod laidOut (by kernel_rfl) (of_decide_eq_true (by kernel_rfl)) k0 hn lt0
  obtain ⟨a1, rfl, rfl, rfl, w1⟩ := open_int Try.underlying3 (hval 1 3 v1 rfl rfl) h1
  clear hA0 hval0
  refine (walk W s0 n0 c0 f0 m0 A0 z0 a1 w1).mono fun e W' ⟨he, hg⟩ => ?_
  subst he
  refine ⟨_, rfl, _, _, _, [], p0 ++ ([] ++ []), [], hW', (trodAll_cons_mk (shut_bool Try.underlying4 _) trodAll_mk0), (trodAll_cons_mk (arg0 _ hg) (trodAll_cons_mk (shut_int Try.underlying3 w1) trodAll_mk0)), rfl, hg.frame _, fun h => by cases h⟩
theorem over : Rows.fnExactSumWholesRow.holds Try.pinned (OpenSpec.ofChange Rows.fnExactSumWholesSpec) :=
  OpenClaim.holds_of_wide 6 Try.f6 rfl rfl rfl rfl rfl rfl rfl ⟨rfl, rfl, rfl, rfl, rfl⟩ rfl rfl rfl rfl rfl (by kernel_rfl) Try.func6 (by kernel_rfl)
    (of_decide_eq_true (by kernel_rfl)) (by unfold Func.isWrapper; first | (rw [if_pos (by decide +kernel)]; kernel_rfl) | (rw [if_neg (by decide +kernel)]; exact ⟨rfl, rfl⟩))
    (fun os started H enc _ => lifted os started H enc)
end Go.Proofs.Ytlcfpcapefeajaa.fnExactSumWholes
namespace Go.Proofs.Ytlcfpcapefeajaa
theorem sum_wholes_holds : Rows.FnExactSumWholesSaid := fnExactSumWholes.over
#print axioms sum_wholes_holds
end Go.Proofs.Ytlcfpcapefeajaa
