/- A drawn list with the least turns has neither a wrong state nor a wrong turn, and with them once more it stays. No conditions. -/
import Derived.Test.YtnbpncjbfnhkjaaRows
import Derived.Test.YtnbpncjbfnhkjaaVr
namespace Go.Proofs.Ytnbpncjbfnhkjaa.fnTurns
open Go.ChangeShapes Go.WideShapes Go.ChangeAt Go.RowKit
set_option linter.unusedVariables false
theorem own : ownKnob Try.prog.godebug = none := by kernel_rfl
theorem laidOut : laidOutB Try.prog = true := by kernel_rfl

set_option maxRecDepth 100000 in
set_option maxHeartbeats 8000000 in
theorem walk (w : World) (s0 : Option Addr) (n0 c0 : Nat) (f0 : Nat → Int) (m0 : n0 ≤ 9223372036854775807) (A0 : Arg w s0 n0 (fun i => .int .u8 (f0 i))) (z0 : ∀ i, (Lit.int .u8 (f0 i)).wf = true) :
    Calls Try.prog 3 #[.slice s0 n0 c0] w fun e w' => e = .returned (.bool true) ∧ Below w.heap.size w w' := by
  by_cases big0 : 1048576 < n0
  · have b1 : (1048576 : Int) < (n0 : Int) := by omega
    go_enter Try.func3, Try.ntmps3
    go_wp2
    go_ret
    exact ⟨rfl, Below.refl _ _⟩
  have b0 : ¬ (1048576 : Int) < (n0 : Int) := by omega
  have hz : ∀ {x : Int}, (Lit.int .u8 x).wf = true → 0 ≤ x ∧ x < 256 := fun {x} h => by
    simp [Lit.wf] at h
    exact ⟨h.1, Int.lt_add_one_of_le h.2⟩
  have HD := Hid.mk (mdraw s0 n0 c0 f0 w A0 (fun i => hz (z0 i)) (by omega))
  clear A0 z0 hz big0
  go_enter Try.func3, Try.ntmps3
  go_upto_region 4 with (go_at_call 8; refine HD.out.mono ?_; rintro e w1 ⟨⟨v, L, rfl, R1, hL⟩, B1⟩)
  obtain ⟨ad, c7, rfl, hlc, A1⟩ := R1.arg
  have HPL := Hid.mk (plt ad L.length c7 (atC0 L) (atC1 L) (atC2 L) (atC3 L) (atC4 L) w1 A1 (by omega))
  have HML : Hid (∀ v, Below w1.heap.size w1 v → Calls Try.prog 10 #[.slice ad L.length c7] v fun e w' => (∃ x, e = .returned (.tuple #[x, .bool (ltB (atC0 L) (atC1 L) (atC2 L) (atC3 L) (atC4 L) L.length)]) ∧ CR v.heap.size w' x (ltR (atC0 L) (atC1 L) (atC2 L) (atC3 L) (atC4 L) L.length)) ∧ Below v.heap.size v w') := fun v b => mlt ad L.length c7 (atC0 L) (atC1 L) (atC2 L) (atC3 L) (atC4 L) v (A1.next b) (by omega)
  have HCP : Hid (∀ v, Below w1.heap.size w1 v → Calls Try.prog 11 #[.slice ad L.length c7] v fun e w' => e = .returned (.agg #[.int .i64 (clC (atC0 L) (atC1 L) (atC2 L) (atC3 L) (atC4 L) L.length), .int .i64 0, .int .i64 (clA (atC0 L) (atC1 L) (atC2 L) (atC3 L) (atC4 L) L.length), .int .i64 0]) ∧ Below v.heap.size v w') := fun v b => pcheck ad L.length c7 (atC0 L) (atC1 L) (atC2 L) (atC3 L) (atC4 L) v (A1.next b) (by omega)
  have HCM : Hid (∀ v, Below w1.heap.size w1 v → Calls Try.prog 12 #[.slice ad L.length c7] v fun e w' => e = .returned (.agg #[.int .i64 (clC (atC0 L) (atC1 L) (atC2 L) (atC3 L) (atC4 L) L.length), .int .i64 0, .int .i64 (clA (atC0 L) (atC1 L) (atC2 L) (atC3 L) (atC4 L) L.length), .int .i64 0]) ∧ Below v.heap.size v w') := fun v b => mcheck ad L.length c7 (atC0 L) (atC1 L) (atC2 L) (atC3 L) (atC4 L) v (A1.next b) (by omega) hlc
  have HTA : Hid (∀ X, ltB (atC0 L) (atC1 L) (atC2 L) (atC3 L) (atC4 L) L.length = true → ltR (atC0 L) (atC1 L) (atC2 L) (atC3 L) (atC4 L) L.length = X → ltB (atC0 X) (atC1 X) (atC2 X) (atC3 X) (atC4 X) X.length = true ∧ ltR (atC0 X) (atC1 X) (atC2 X) (atC3 X) (atC4 X) X.length = X ∧ (clC (atC0 X) (atC1 X) (atC2 X) (atC3 X) (atC4 X) X.length = 0 ∨ clC (atC0 X) (atC1 X) (atC2 X) (atC3 X) (atC4 X) X.length = 4) ∧ X.length ≤ 60) := fun X h1 h2 => turns_again h1 h2
  generalize ltR (atC0 L) (atC1 L) (atC2 L) (atC3 L) (atC4 L) L.length = X at HPL HML HTA
  generalize ltB (atC0 L) (atC1 L) (atC2 L) (atC3 L) (atC4 L) L.length = LB at HPL HML HTA
  generalize clC (atC0 L) (atC1 L) (atC2 L) (atC3 L) (atC4 L) L.length = CC at HCP HCM
  generalize clA (atC0 L) (atC1 L) (atC2 L) (atC3 L) (atC4 L) L.length = CA at HCP HCM
  clear A1 R1 HD hlc hL
  generalize L.length = ln at HPL HML HCP HCM ⊢
  cases LB
  · go_wp2_with (first
      | (go_at_call 9; (with_reducible show Calls Try.prog 9 _ w1 _); refine HPL.out.mono ?_; rintro e w2 ⟨⟨x, rfl, R2⟩, B2⟩)
      | (go_at_call 10; refine (HML.out w2 B2).mono ?_; rintro e w3 ⟨⟨y, rfl, R3⟩, B3⟩; (have B13 : Below w1.heap.size w1 w3 := B2.trans (B3.mono B2.size)))
      | (go_at_call 11; refine (HCP.out w3 B13).mono ?_; rintro e w4 ⟨rfl, B4⟩; (have B14 : Below w1.heap.size w1 w4 := B13.trans (B4.mono B13.size)))
      | (go_at_call 12; refine (HCM.out w4 B14).mono ?_; rintro e w5 ⟨rfl, B5⟩))
    go_ret
    exact ⟨rfl, (B1.trans (B14.mono B1.size)).trans (B5.mono (Nat.le_trans B1.size B14.size))⟩
  obtain ⟨e1, e2, e3, e4⟩ := HTA.out X rfl rfl
  go_upto_region 6 with (first
    | (go_at_call 9; (with_reducible show Calls Try.prog 9 _ w1 _); refine HPL.out.mono ?_; rintro e w2 ⟨⟨x, rfl, R2⟩, B2⟩)
    | (go_at_call 10; refine (HML.out w2 B2).mono ?_; rintro e w3 ⟨⟨y, rfl, R3⟩, B3⟩; (have B13 : Below w1.heap.size w1 w3 := B2.trans (B3.mono B2.size))))
  obtain ⟨ax, cx, rfl, hxc, AX⟩ := (R2.next B3).arg
  have HP2 : Hid (∀ v, Below w3.heap.size w3 v → Calls Try.prog 9 #[.slice ax X.length cx] v fun e w' => (∃ x, e = .returned (.tuple #[x, .bool true]) ∧ CR v.heap.size w' x X) ∧ Below v.heap.size v w') := fun v b => by
    have h := plt ax X.length cx (atC0 X) (atC1 X) (atC2 X) (atC3 X) (atC4 X) v (AX.next b) (by omega)
    rw [e1, e2] at h
    exact h
  have HC2 := Hid.mk (pcheck ax X.length cx (atC0 X) (atC1 X) (atC2 X) (atC3 X) (atC4 X) w3 AX (by omega))
  have HSM : Hid (∀ v z, Below w3.heap.size w3 v → CR w3.heap.size v z X → ∃ az cz, z = .slice az X.length cz ∧ Calls Try.prog 13 #[.slice az X.length cz, .slice ax X.length cx] v fun e w' => e = .returned (.bool true) ∧ Below v.heap.size v w') := fun v z b R => by
    obtain ⟨az, cz, hz, _, AZ⟩ := R.arg
    exact ⟨az, cz, hz, msame az ax X.length cz cx (atC0 X) (atC1 X) (atC2 X) (atC3 X) (atC4 X) v AZ (AX.next b) (by omega)⟩
  clear HTA HPL HML R2 R3 B2 B3 AX hxc e1 e2 e4
  generalize clA (atC0 X) (atC1 X) (atC2 X) (atC3 X) (atC4 X) X.length = DX at HC2
  generalize clC (atC0 X) (atC1 X) (atC2 X) (atC3 X) (atC4 X) X.length = CX at HC2 e3
  generalize hXX : X.length = xn at HP2 HC2 HSM ⊢
  clear hXX
  go_upto_region 12 with (first
    | (go_at_call 11; (with_reducible show Calls Try.prog 11 _ w3 _); refine HC2.out.mono ?_; rintro e w4 ⟨rfl, B4⟩; (have B4a : Below w3.heap.size w3 (w4.alloc (.cells #[.int .i64 CX, .int .i64 0, .int .i64 DX, .int .i64 0] 28)) := B4.alloc B4.size _); (have V4 := C4.new w4 28 (.int .i64 CX) (.int .i64 0) (.int .i64 DX) (.int .i64 0)))
    | (go_at_call 9; refine (HP2.out _ B4a).mono ?_; rintro e w5 ⟨⟨z, rfl, R5⟩, B5⟩; (have B35 : Below w3.heap.size w3 w5 := B4a.trans (B5.mono B4a.size)); (have V5 := V4.next B5)))
  obtain ⟨az, cz, rfl, HS5⟩ := HSM.out w5 z B35 (R5.low B4a.size)
  have B15 : Below w1.heap.size w1 w5 := B13.trans (B35.mono B13.size)
  obtain ⟨vb, hvb⟩ : ∃ q, w4.heap.size = q := ⟨_, rfl⟩
  rw [hvb] at V5 ⊢
  have q0 := V5.c0
  clear hvb HP2 HC2 HSM B4 B4a V4 B35 R5 B13 B5
  have HS5 := Hid.mk HS5
  rcases e3 with rfl | rfl
  all_goals
    go_wp2_with (first
      | (go_at_call 13; refine HS5.out.mono ?_; rintro e w6 ⟨rfl, B6⟩; (have B16 : Below w1.heap.size w1 w6 := B15.trans (B6.mono B15.size)))
      | (go_at_call 11; refine (HCP.out w6 B16).mono ?_; rintro e w7 ⟨rfl, B7⟩; (have B17 : Below w1.heap.size w1 w7 := B16.trans (B7.mono B16.size)))
      | (go_at_call 12; refine (HCM.out w7 B17).mono ?_; rintro e w8 ⟨rfl, B8⟩))
    go_ret
    exact ⟨rfl, (B1.trans (B17.mono B1.size)).trans (B8.mono (Nat.le_trans B1.size B17.size))⟩

set_option maxRecDepth 100000 in
theorem lifted (os : Os) (started : os.Started) (H : Type) (enc : TypeId × Value → H) :
    ReturnsInHanded {} Try.checked os 3 .any (Rows.fnTurnsSpec.pre6 enc Try.prog Try.f3 Rows.fnTurnsRow.domain false) (Rows.fnTurnsSpec.post enc Try.prog Try.f3 false true false false) := by
  refine returnsInHanded_of_change (C := Try.checked) own started (by kernel_rfl) Try.func3
    (ChangeSpec.witness6 (enc := enc) (C := Try.checked) false ⟨#[], #[.slice none 0 0], []⟩ 8 (by kernel_rfl) (by kernel_rfl) (by kernel_rfl) (by kernel_rfl)) ?_
  intro W base args ds gs before hval0 hW hcnd _
  have hval : ∀ (j : Nat) t v, Try.f3.params[j]? = some t → args[j]? = some v → Value.okWide Try.prog W .any base t v := hval0
  have hW' := hW
  obtain ⟨p, q, hA0, hV, rfl, hfz, hnd⟩ := hW
  have hA : DataW.TrodAll enc Try.prog W 0 (fun _ => true) true Try.f3.params.toList args.toList ds p := hA0
  rw [Try.params3] at hA hval
  obtain ⟨v0, vs0, d0, ds0, p0, q0, hargs, rfl, rfl, h0, r0⟩ := trodAll_cons hA
  obtain ⟨rfl, rfl, rfl⟩ := trodAll_nil r0
  obtain rfl : args = #[v0] := by cases args; simp_all
  obtain ⟨rfl, rfl⟩ := trodVars_none hV
  simp only [List.append_nil] at hW'
  have k0 := h0
  have lt0 : ∀ x ∈ p0, x.block < W.heap.size := fun x hx => by have := hW'.lt x (by simp [hx]); simpa using this
  obtain ⟨s0, n0, c0, f0, rfl, m0, A0, z0⟩ := view_ints Try.underlying22 Try.underlying5 (by kernel_rfl) (hval 0 22 v0 rfl rfl) h0 lt0
  have arg0 : ∀ (W' : World), Below W.heap.size W W' → DataW.Trod enc Try.prog W' 0 (fun b => decide (b < W.heap.size)) true 22 (.slice s0 n0 c0) d0 p0 := fun W' hn => Below.trod laidOut (by kernel_rfl) (of_decide_eq_true (by kernel_rfl)) k0 hn lt0
  clear hA0 hval0
  refine (walk W s0 n0 c0 f0 m0 A0 z0).mono fun e W' ⟨he, hg⟩ => ?_
  subst he
  refine ⟨_, rfl, _, _, _, [], p0 ++ [], [], hW', (trodAll_cons_mk (shut_bool Try.underlying4 _) trodAll_mk0), (trodAll_cons_mk (arg0 _ hg) trodAll_mk0), rfl, hg.frame _, fun h => by cases h⟩
theorem over : Rows.fnTurnsRow.holds Try.pinned (OpenSpec.ofChange Rows.fnTurnsSpec) :=
  OpenClaim.holds_of_wide 3 Try.f3 rfl rfl rfl rfl rfl rfl rfl ⟨rfl, rfl, rfl, rfl, rfl⟩ rfl rfl rfl rfl rfl (by kernel_rfl) Try.func3 (by kernel_rfl)
    (of_decide_eq_true (by kernel_rfl)) (by unfold Func.isWrapper; first | (rw [if_pos (by decide +kernel)]; kernel_rfl) | (rw [if_neg (by decide +kernel)]; exact ⟨rfl, rfl⟩))
    (fun os started H enc _ => lifted os started H enc)
end Go.Proofs.Ytnbpncjbfnhkjaa.fnTurns
namespace Go.Proofs.Ytnbpncjbfnhkjaa
theorem turns : Rows.FnTurnsSaid := fnTurns.over
#print axioms turns
end Go.Proofs.Ytnbpncjbfnhkjaa
