/- LeastMisses answers as its model at every row of places, every number of ways and every length of a line, and writes into no argument. No conditions. -/
import Derived.Test.YtfhpjcojccfcoaaRows
import Derived.Test.YtfhpjcojccfcoaaLl
namespace Go.Proofs.Ytfhpjcojccfcoaa.fnExactLeastMisses
open Go.ChangeShapes Go.WideShapes Go.ChangeAt Go.RowKit
set_option linter.unusedVariables false
theorem own : ownKnob Try.prog.godebug = none := by kernel_rfl
theorem laidOut : laidOutB Try.prog = true := by kernel_rfl

set_option maxHeartbeats 2000000 in
theorem walk (w : World) (s0 : Option Addr) (n0 c0 : Nat) (f0 : Nat → Int) (m0 : n0 ≤ 9223372036854775807) (A0 : Arg w s0 n0 (fun i => .int .i64 (f0 i))) (z0 : ∀ i, (Lit.int .i64 (f0 i)).wf = true) (a1 : Int) (w1 : (Lit.int .i64 a1).wf = true) (a2 : Int) (w2 : (Lit.int .i64 a2).wf = true) :
    Calls Try.prog 10 #[.slice s0 n0 c0, .int .i64 a1, .int .i64 a2] w fun e w' => e = .returned (.bool true) ∧ Below w.heap.size w w' := by
  by_cases big : 1048576 < n0
  · have b1 : (1048576 : Int) < (n0 : Int) := by omega
    go_enter Try.func10, Try.ntmps10
    go_wp2
    go_ret
    exact ⟨rfl, Below.refl _ _⟩
  have b1 : ¬ (1048576 : Int) < (n0 : Int) := by omega
  have hn0 : n0 ≤ 1048576 := by omega
  have HT : Hid (∀ w', Below w.heap.size w w' → Calls Try.prog 19 #[.slice s0 n0 c0] w' fun r w'' => r = .returned (.slice (some ⟨w'.heap.size, 0, none⟩) n0 n0) ∧ Own w'' w'.heap.size n0 (fun i => .int .i64 (f0 i)) ∧ Below w'.heap.size w' w'') := fun w' b => toN27 (A0.next b) c0 hn0
  have HE : Hid (∀ u v w', ARow w' u (fl f0 n0) → ARow w' v (fl f0 n0) → Calls Try.prog 20 #[u, v] w' fun r w'' => r = .returned (.bool true) ∧ Below w'.heap.size w' w'') := fun u v w' a b => (eqA25 (by rw [fl_len]; exact hn0) a b).mono fun e w'' ⟨h1, k, h2⟩ => ⟨h1, by rw [h2]; exact below_drewN (Below.refl _ _) k⟩
  have HM : Hid (∀ g v, Own v g n0 (fun i => .int .i64 (f0 i)) → Calls Try.prog 39 #[.slice (some ⟨g, 0, none⟩) n0 n0, .int .i64 a1, .int .i64 a2] v fun e w' => e = .returned (.tuple #[.int .i64 (leastZ (fl f0 n0) a1 a2), .bool (leastB (fl f0 n0) a1 a2)]) ∧ Below v.heap.size v w') := fun g v O => mleast _ _ a1 a2 v (own_arow O)
  have HP : Hid (∀ g v, Own v g n0 (fun i => .int .i64 (f0 i)) → Calls Try.prog 40 #[.slice (some ⟨g, 0, none⟩) n0 n0, .int .i64 a1, .int .i64 a2] v fun e w' => e = .returned (.tuple #[.int .i64 (leastZ (fl f0 n0) a1 a2), .bool (leastB (fl f0 n0) a1 a2)]) ∧ Below v.heap.size v w') := fun g v O => pleast _ _ a1 a2 v (own_arow O) (by rw [fl_len]; exact hn0)
  generalize leastZ (fl f0 n0) a1 a2 = Z at HM HP
  generalize leastB (fl f0 n0) a1 a2 = BB at HM HP
  clear A0 z0 w1
  go_enter Try.func10, Try.ntmps10
  go_wp2_with (first | (go_at_call 19; (with_reducible show Calls Try.prog 19 _ w _); refine (HT.out w (Below.refl _ _)).mono ?_; rintro e w2 ⟨rfl, X2, B2⟩) | (go_at_call 39; refine (HM.out _ w2 X2).mono ?_; rintro e w3 ⟨rfl, B3⟩))
  have B03 : Below w.heap.size w w3 := B2.trans (B3.mono B2.size)
  clear X2 B2 B3
  go_wp2_with (first | (go_at_call 19; (with_reducible show Calls Try.prog 19 _ w3 _); refine (HT.out w3 B03).mono ?_; rintro e w4 ⟨rfl, X4, B4⟩) | (go_at_call 40; refine (HP.out _ w4 X4).mono ?_; rintro e w5 ⟨rfl, B5⟩))
  have B45 : Below w.heap.size w w5 := B03.trans ((B4.trans (B5.mono B4.size)).mono B03.size)
  have X5 : Own w5 w3.heap.size n0 (fun i => .int .i64 (f0 i)) := X4.next B5
  clear X4 B4 B5 B03
  cases BB
  all_goals
    go_wp2_with (first | (go_at_call 19; (with_reducible show Calls Try.prog 19 _ w5 _); refine (HT.out w5 B45).mono ?_; rintro e w6 ⟨rfl, X6, B6⟩) | (go_at_call 20; refine (HE.out _ _ w6 (own_arow (X5.next B6)) (own_arow X6)).mono ?_; rintro e w7 ⟨rfl, B7⟩))
    go_ret
    exact ⟨rfl, B45.trans ((B6.trans (B7.mono B6.size)).mono B45.size)⟩

set_option maxRecDepth 100000 in
theorem lifted (os : Os) (started : os.Started) (H : Type) (enc : TypeId × Value → H) :
    ReturnsInHanded {} Try.checked os 10 .any (Rows.fnExactLeastMissesSpec.pre6 enc Try.prog Try.f10 Rows.fnExactLeastMissesRow.domain false) (Rows.fnExactLeastMissesSpec.post enc Try.prog Try.f10 false true false false) := by
  refine returnsInHanded_of_change (C := Try.checked) own started (by kernel_rfl) Try.func10
    (ChangeSpec.witness6 (enc := enc) (C := Try.checked) false ⟨#[], #[.slice none 0 0, .int .i64 0, .int .i64 0], []⟩ 8 (by kernel_rfl) (by kernel_rfl) (by kernel_rfl) (by kernel_rfl)) ?_
  intro W base args ds gs before hval0 hW hcnd _
  have hval : ∀ (j : Nat) t v, Try.f10.params[j]? = some t → args[j]? = some v → Value.okWide Try.prog W .any base t v := hval0
  have hW' := hW
  obtain ⟨p, q, hA0, hV, rfl, hfz, hnd⟩ := hW
  have hA : DataW.TrodAll enc Try.prog W 0 (fun _ => true) true Try.f10.params.toList args.toList ds p := hA0
  rw [Try.params10] at hA hval
  obtain ⟨v0, vs0, d0, ds0, p0, q0, hargs, rfl, rfl, h0, r0⟩ := trodAll_cons hA
  obtain ⟨v1, vs1, d1, ds1, p1, q1, rfl, rfl, rfl, h1, r1⟩ := trodAll_cons r0
  obtain ⟨v2, vs2, d2, ds2, p2, q2, rfl, rfl, rfl, h2, r2⟩ := trodAll_cons r1
  obtain ⟨rfl, rfl, rfl⟩ := trodAll_nil r2
  obtain rfl : args = #[v0, v1, v2] := by cases args; simp_all
  obtain ⟨rfl, rfl⟩ := trodVars_none hV
  simp only [List.append_nil] at hW'
  have k0 := h0
  have lt0 : ∀ x ∈ p0, x.block < W.heap.size := fun x hx => by have := hW'.lt x (by simp [hx]); simpa using this
  obtain ⟨s0, n0, c0, f0, rfl, m0, A0, z0⟩ := view_ints Try.underlying23 Try.underlying3 (by kernel_rfl) (hval 0 23 v0 rfl rfl) h0 lt0
  have arg0 : ∀ (W' : World), Below W.heap.size W W' → DataW.Trod enc Try.prog W' 0 (fun b => decide (b < W.heap.size)) true 23 (.slice s0 n0 c0) d0 p0 := fun W' hn => Below.trod laidOut (by kernel_rfl) (of_decide_eq_true (by kernel_rfl)) k0 hn lt0
  obtain ⟨a1, rfl, rfl, rfl, w1⟩ := open_int Try.underlying3 (hval 1 3 v1 rfl rfl) h1
  obtain ⟨a2, rfl, rfl, rfl, w2⟩ := open_int Try.underlying3 (hval 2 3 v2 rfl rfl) h2
  clear hA0 hval0
  refine (walk W s0 n0 c0 f0 m0 A0 z0 a1 w1 a2 w2).mono fun e W' ⟨he, hg⟩ => ?_
  subst he
  refine ⟨_, rfl, _, _, _, [], p0 ++ ([] ++ ([] ++ [])), [], hW', (trodAll_cons_mk (shut_bool Try.underlying4 _) trodAll_mk0), (trodAll_cons_mk (arg0 _ hg) (trodAll_cons_mk (shut_int Try.underlying3 w1) (trodAll_cons_mk (shut_int Try.underlying3 w2) trodAll_mk0))), rfl, hg.frame _, fun h => by cases h⟩
theorem over : Rows.fnExactLeastMissesRow.holds Try.pinned (OpenSpec.ofChange Rows.fnExactLeastMissesSpec) :=
  OpenClaim.holds_of_wide 10 Try.f10 rfl rfl rfl rfl rfl rfl rfl ⟨rfl, rfl, rfl, rfl, rfl⟩ rfl rfl rfl rfl rfl (by kernel_rfl) Try.func10 (by kernel_rfl)
    (of_decide_eq_true (by kernel_rfl)) (by unfold Func.isWrapper; first | (rw [if_pos (by decide +kernel)]; kernel_rfl) | (rw [if_neg (by decide +kernel)]; exact ⟨rfl, rfl⟩))
    (fun os started H enc _ => lifted os started H enc)
end Go.Proofs.Ytfhpjcojccfcoaa.fnExactLeastMisses
namespace Go.Proofs.Ytfhpjcojccfcoaa
theorem leastMisses : Rows.FnExactLeastMissesSaid := fnExactLeastMisses.over
#print axioms leastMisses
end Go.Proofs.Ytfhpjcojccfcoaa
