/- Proved: for every row of fields and every two whole numbers the law FnExactComponentAt returns true (ComponentAt answers as its model, and writes into no argument) and the arguments read afterwards as before; no conditions. -/
import Derived.Test.YteakeaclpcgopaaRows
import Derived.Test.YteakeaclpcgopaaCmpI
import Derived.Test.YteakeaclpcgopaaFldArg
import Derived.OpenShut
import Derived.ChangeMaps5
namespace Go.Proofs.Yteakeaclpcgopaa.fnExactComponentAt
open Go.ChangeShapes Go.WideShapes Go.ChangeAt Go.RowKit
set_option linter.unusedVariables false
theorem own : ownKnob Try.prog.godebug = none := by kernel_rfl
theorem laidOut : laidOutB Try.prog = true := by kernel_rfl

set_option maxHeartbeats 2000000 in
theorem walk (w : World) (s0 : Option Addr) (n0 c0 : Nat) (K0 T0 : Nat → ByteArray) (J0 : Nat → Int) (m0 : n0 ≤ 9223372036854775807) (A0 : Arg3 w s0 n0 K0 T0 J0) (k0 : ∀ i, (K0 i).size ≤ 9223372036854775807) (t0 : ∀ i, (T0 i).size ≤ 9223372036854775807) (j0 : ∀ i, (Lit.int .i64 (J0 i)).wf = true) (a1 : Int) (w1 : (Lit.int .i64 a1).wf = true) (a2 : Int) (w2 : (Lit.int .i64 a2).wf = true) :
    Calls Try.prog 6 #[.slice s0 n0 c0, .int .i64 a1, .int .i64 a2] w fun e w' => e = .returned (.bool true) ∧ Below w.heap.size w w' := by
  have HS : Hid (Calls Try.prog 9 #[.slice s0 n0 c0, .int .i64 1048576] w fun r w' => (∃ z : Int, r = .returned (.int .i64 z) ∧ (z < 0 ∨ 0 ≤ z ∧ z ≤ 1048576 ∧ n0 ≤ 1048576 ∧ ∀ i, i < n0 → (K0 i).size ≤ 1048576 ∧ (T0 i).size ≤ 1048576)) ∧ Below w.heap.size w w') := argSz A0 c0 m0 k0 t0
  have HT : Hid (∀ w', Below w.heap.size w w' → n0 ≤ 1048576 → Calls Try.prog 11 #[.slice s0 n0 c0] w' fun r w'' => r = .returned (.slice (some ⟨w'.heap.size, 0, none⟩) n0 n0) ∧ Row3 w'' w'.heap.size n0 K0 T0 J0 ∧ Below w'.heap.size w' w'') := fun w' b hn => argN (A0.next b) c0 hn
  clear A0 k0 t0
  go_enter Try.func6, Try.ntmps6
  go_wp2_with (go_at_call 9; refine HS.out.mono ?_)
  rintro e w1 ⟨⟨z, rfl, hz⟩, B1⟩
  by_cases z0 : z < 0
  · go_wp2
    go_ret
    exact ⟨rfl, B1⟩
  obtain ⟨_, z1, hn, hsz⟩ := hz.resolve_left z0
  have HSZ : Hid (∀ i, i < n0 → (K0 i).size ≤ 1048576) := fun i hi => (hsz i hi).1
  clear hz hsz
  obtain ⟨R, hR⟩ : ∃ R, compA K0 T0 J0 a1 a2 n0 = R := ⟨_, rfl⟩
  obtain ⟨r0, r1, r2, r3⟩ := R
  have H22 : Hid (∀ a w', Row3 w' a n0 K0 T0 J0 → Calls Try.prog 22 #[.slice (some ⟨a, 0, none⟩) n0 n0, .int .i64 a1, .int .i64 a2] w' fun e w'' => e = .returned (.tuple #[.string r0, .int .i64 r1, .int .i64 r2, .bool r3]) ∧ Below w'.heap.size w' w'') := fun a w' X => by
    have h := comp22 n0 a K0 T0 J0 a1 a2 w' X hn HSZ.out
    rw [hR] at h
    exact h
  have H23 : Hid (∀ a w', Row3 w' a n0 K0 T0 J0 → Calls Try.prog 23 #[.slice (some ⟨a, 0, none⟩) n0 n0, .int .i64 a1, .int .i64 a2] w' fun e w'' => e = .returned (.tuple #[.string r0, .int .i64 r1, .int .i64 r2, .bool r3]) ∧ Below w'.heap.size w' w'') := fun a w' X => by
    have h := comp23 n0 a K0 T0 J0 a1 a2 w' X hn HSZ.out
    rw [hR] at h
    exact h
  have er : (r0.toList == r0.toList) = true := by simp
  clear hR
  go_wp2_with (first | (go_at_call 11; refine (HT.out w1 B1 hn).mono ?_; rintro e w2 ⟨rfl, X2, B2⟩) | (go_at_call 22; refine (H22.out w1.heap.size w2 X2).mono ?_; rintro e w3 ⟨rfl, B3⟩))
  have B13 : Below w.heap.size w w3 := (B1.trans (B2.mono B1.size)).trans (B3.mono (by have := B1.size; have := B2.size; omega))
  go_wp2_with (first | (go_at_call 11; refine (HT.out w3 B13 hn).mono ?_; rintro e w4 ⟨rfl, X4, B4⟩) | (go_at_call 23; refine (H23.out w3.heap.size w4 X4).mono ?_; rintro e w5 ⟨rfl, B5⟩))
  have B15 : Below w.heap.size w w5 := (B13.trans (B4.mono B13.size)).trans (B5.mono (by have := B13.size; have := B4.size; omega))
  have X5 := X4.next B5
  cases r3
  all_goals
    go_wp2_with (first | (go_at_call 11; refine (HT.out w5 B15 hn).mono ?_; rintro e w6 ⟨rfl, X6, B6⟩) | (go_at_call 13; refine (eqN (X5.next B6) X6 n0 n0 hn).mono ?_; rintro e w7 ⟨rfl, B7⟩))
    go_ret
    exact ⟨rfl, (B15.trans (B6.mono B15.size)).trans (B7.mono (by have := B15.size; have := B6.size; omega))⟩

set_option maxRecDepth 100000 in
theorem lifted (os : Os) (started : os.Started) (H : Type) (enc : TypeId × Value → H) :
    ReturnsInHanded {} Try.checked os 6 .any (Rows.fnExactComponentAtSpec.pre6 enc Try.prog Try.f6 Rows.fnExactComponentAtRow.domain false) (Rows.fnExactComponentAtSpec.post enc Try.prog Try.f6 false true false false) := by
  refine returnsInHanded_of_change (C := Try.checked) own started (by kernel_rfl) Try.func6
    (ChangeSpec.witness6 (enc := enc) (C := Try.checked) false ⟨#[], #[.slice none 0 0, .int .i64 0, .int .i64 0], []⟩ 8 (by kernel_rfl) (by kernel_rfl) (by kernel_rfl) (by kernel_rfl)) ?_
  intro W base args ds gs before hval0 hW hcnd _
  have hval : ∀ (j : Nat) t v, Try.f6.params[j]? = some t → args[j]? = some v → Value.okWide Try.prog W .any base t v := hval0
  have hW' := hW
  obtain ⟨p, q, hA0, hV, rfl, hfz, hnd⟩ := hW
  have hA : DataW.TrodAll enc Try.prog W 0 (fun _ => true) true Try.f6.params.toList args.toList ds p := hA0
  rw [Try.params6] at hA hval
  obtain ⟨v0, vs0, d0, ds0, p0, q0, hargs, rfl, rfl, h0, r0⟩ := trodAll_cons hA
  obtain ⟨v1, vs1, d1, ds1, p1, q1, rfl, rfl, rfl, h1, r1⟩ := trodAll_cons r0
  obtain ⟨v2, vs2, d2, ds2, p2, q2, rfl, rfl, rfl, h2, r2⟩ := trodAll_cons r1
  obtain ⟨rfl, rfl, rfl⟩ := trodAll_nil r2
  obtain rfl : args = #[v0, v1, v2] := by cases args; simp_all
  obtain ⟨rfl, rfl⟩ := trodVars_none hV
  simp only [List.append_nil] at hW'
  have k0 := h0
  have lt0 : ∀ x ∈ p0, x.block < W.heap.size := fun x hx => by have := hW'.lt x (by simp [hx]); simpa using this
  obtain ⟨s0, n0, c0, K0, T0, J0, rfl, m0, A0, kk0, t0, j0⟩ := view_nodes Try.underlying22 Try.underlying60 (by kernel_rfl) rfl rfl rfl (by kernel_rfl) (by kernel_rfl) (by kernel_rfl) Try.underlying9 Try.underlying9 Try.underlying3 (hval 0 22 v0 rfl rfl) h0 lt0
  have arg0 : ∀ (W' : World), Below W.heap.size W W' → DataW.Trod enc Try.prog W' 0 (fun b => decide (b < W.heap.size)) true 22 (.slice s0 n0 c0) d0 p0 := fun W' hn => Below.trod laidOut (by kernel_rfl) (of_decide_eq_true (by kernel_rfl)) k0 hn lt0
  obtain ⟨a1, rfl, rfl, rfl, w1⟩ := open_int Try.underlying3 (hval 1 3 v1 rfl rfl) h1
  obtain ⟨a2, rfl, rfl, rfl, w2⟩ := open_int Try.underlying3 (hval 2 3 v2 rfl rfl) h2
  clear hA0 hval0
  refine (walk W s0 n0 c0 K0 T0 J0 m0 A0 kk0 t0 j0 a1 w1 a2 w2).mono fun e W' ⟨he, hg⟩ => ?_
  subst he
  refine ⟨_, rfl, _, _, _, [], p0 ++ ([] ++ ([] ++ [])), [], hW', (trodAll_cons_mk (shut_bool Try.underlying4 _) trodAll_mk0), (trodAll_cons_mk (arg0 _ hg) (trodAll_cons_mk (shut_int Try.underlying3 w1) (trodAll_cons_mk (shut_int Try.underlying3 w2) trodAll_mk0))), rfl, hg.frame _, fun h => by cases h⟩
theorem over : Rows.fnExactComponentAtRow.holds Try.pinned (OpenSpec.ofChange Rows.fnExactComponentAtSpec) :=
  OpenClaim.holds_of_wide 6 Try.f6 rfl rfl rfl rfl rfl rfl rfl ⟨rfl, rfl, rfl, rfl, rfl⟩ rfl rfl rfl rfl rfl (by kernel_rfl) Try.func6 (by kernel_rfl)
    (of_decide_eq_true (by kernel_rfl)) (by unfold Func.isWrapper; first | (rw [if_pos (by decide +kernel)]; kernel_rfl) | (rw [if_neg (by decide +kernel)]; exact ⟨rfl, rfl⟩))
    (fun os started H enc _ => lifted os started H enc)
end Go.Proofs.Yteakeaclpcgopaa.fnExactComponentAt
namespace Go.Proofs.Yteakeaclpcgopaa
theorem componentat_holds : Rows.FnExactComponentAtSaid := fnExactComponentAt.over
#print axioms componentat_holds
end Go.Proofs.Yteakeaclpcgopaa
