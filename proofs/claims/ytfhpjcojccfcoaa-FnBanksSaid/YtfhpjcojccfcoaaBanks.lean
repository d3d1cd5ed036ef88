/- Of drawn places, for every two rows of bytes that they are drawn from: the turns are from how many unlike places there are, over the banks, to how many, and as the model says; the lines that are read are those of the places, rising. No conditions. -/
import Derived.Test.YtfhpjcojccfcoaaRows
import Derived.Test.YtfhpjcojccfcoaaCw
import Derived.Test.YtfhpjcojccfcoaaNr
namespace Go.Proofs.Ytfhpjcojccfcoaa.fnBanks
open Go.ChangeShapes Go.WideShapes Go.ChangeAt Go.RowKit
set_option linter.unusedVariables false
theorem own : ownKnob Try.prog.godebug = none := by kernel_rfl
theorem laidOut : laidOutB Try.prog = true := by kernel_rfl

set_option maxRecDepth 100000 in
set_option maxHeartbeats 4000000 in
theorem walk (w : World) (s0 : Option Addr) (n0 c0 : Nat) (f0 : Nat → Int) (m0 : n0 ≤ 9223372036854775807) (A0 : Arg w s0 n0 (fun i => .int .u8 (f0 i))) (z0 : ∀ i, (Lit.int .u8 (f0 i)).wf = true) (s1 : Option Addr) (n1 c1 : Nat) (f1 : Nat → Int) (m1 : n1 ≤ 9223372036854775807) (A1 : Arg w s1 n1 (fun i => .int .u8 (f1 i))) (z1 : ∀ i, (Lit.int .u8 (f1 i)).wf = true) :
    Calls Try.prog 3 #[.slice s0 n0 c0, .slice s1 n1 c1] w fun e w' => e = .returned (.bool true) ∧ Below w.heap.size w w' := by
  by_cases big0 : 1048576 < n0
  · have b1 : (1048576 : Int) < (n0 : Int) := by omega
    go_enter Try.func3, Try.ntmps3
    go_wp2
    go_ret
    exact ⟨rfl, Below.refl _ _⟩
  by_cases big1 : 1048576 < n1
  · have b0 : ¬ (1048576 : Int) < (n0 : Int) := by omega
    have b1 : (1048576 : Int) < (n1 : Int) := by omega
    go_enter Try.func3, Try.ntmps3
    go_wp2
    go_ret
    exact ⟨rfl, Below.refl _ _⟩
  have b0 : ¬ (1048576 : Int) < (n0 : Int) := by omega
  have b1 : ¬ (1048576 : Int) < (n1 : Int) := by omega
  have hz : ∀ {x : Int}, (Lit.int .u8 x).wf = true → 0 ≤ x ∧ x < 256 := fun {x} h => by
    simp [Lit.wf] at h
    exact ⟨h.1, Int.lt_add_one_of_le h.2⟩
  have hdb := mdrawB s0 n0 c0 f0 w A0 (fun i => hz (z0 i)) (by omega)
  have HDC : Hid (∀ w', Below w.heap.size w w' → Calls Try.prog 15 #[.slice s1 n1 c1] w' fun e w'' => ∃ u L x y, e = .returned (.tuple #[u, .int .i64 x, .int .i64 y]) ∧ Ri w'.heap.size w'' u L ∧ L.length ≤ 201 ∧ Below w'.heap.size w' w'') := fun w' b => mdrawC s1 n1 c1 f1 w' (A1.next b) (fun i => hz (z1 i)) (by omega)
  clear A0 A1 z0 z1 hz big0 big1
  go_enter Try.func3, Try.ntmps3
  go_wp2_with (go_at_call 11; refine hdb.mono ?_; rintro e w2 ⟨u, L, x, rfl, R2, hL, B2⟩)
  have h12 := pbank L u x w2 R2.arow (by omega)
  have HM : Hid (∀ w', Below w2.heap.size w2 w' → Calls Try.prog 13 #[u, .int .i64 x] w' fun e w'' => e = .returned (.tuple #[.int .i64 (bankZ L x), .bool (bankB L x)]) ∧ Below w'.heap.size w' w'') := fun w' b => mbank L u x w' (R2.next b).own.arowC
  have HU : Hid (∀ w', Below w2.heap.size w2 w' → Calls Try.prog 14 #[u] w' fun e w'' => e = .returned (.int .i64 ((srt L).length : Int)) ∧ Below w'.heap.size w' w'') := fun w' b => munlike L u w' (R2.next b).arow (by omega)
  have HK : Hid (bankB L x = true → ∃ P : Int, bankZ L x * x = P ∧ 0 ≤ P ∧ P ≤ 20000 ∧ ¬ P < ((srt L).length : Int) ∧ ¬ ((srt L).length : Int) < bankZ L x) := fun hb => by
    have ez : bankZ L x = (bankV L x : Int) := by unfold bankZ; rw [if_pos hb]
    unfold bankB at hb
    rw [Bool.and_eq_true, Bool.and_eq_true] at hb
    have x1 : 1 ≤ x := by simpa using hb.2.1
    have x2 : x ≤ 64 := by simpa using hb.2.2
    obtain ⟨m, rfl⟩ : ∃ m : Nat, x = (m : Int) := ⟨x.toNat, by omega⟩
    obtain ⟨q1, q2⟩ := bank_bounds L (m : Int) x1 x2
    rw [Int.toNat_natCast] at q2
    have q3 := srt_len L
    have q4 : m * bankV L (m : Int) ≤ 64 * 201 := Nat.mul_le_mul (by omega) (by omega)
    refine ⟨((m * bankV L (m : Int) : Nat) : Int), ?_, by omega, by omega, by omega, by rw [ez]; omega⟩
    rw [ez, Int.mul_comm, Int.natCast_mul]
  generalize bankZ L x = Z at h12 HM HK
  generalize bankB L x = BB at h12 HM HK
  generalize ((srt L).length : Int) = kk at HU HK
  obtain ⟨ua, uc, hu, _⟩ := R2.arow
  subst hu
  clear R2 hdb
  cases BB
  · go_wp2_with (first | (go_at_call 12; refine h12.mono ?_; rintro e w3 ⟨rfl, B3⟩) | (go_at_call 13; refine (HM.out w3 B3).mono ?_; rintro e w4 ⟨rfl, B4⟩; (have B24 : Below w2.heap.size w2 w4 := B3.trans (B4.mono B3.size))) | (go_at_call 14; refine (HU.out w4 B24).mono ?_; rintro e w5 ⟨rfl, B5⟩))
    have B05 : Below w.heap.size w w5 := B2.trans ((B24.trans (B5.mono B24.size)).mono B2.size)
    clear h12 HM HU HK B2 B3 B4 B24 B5
    have B03 : Below w.heap.size w w5 := B05
    go_wp2_with (go_at_call 15; refine (HDC.out w5 B05).mono ?_; rintro e w6 ⟨u2, L2, x2, y2, rfl, R6, hL2, B6⟩)
    have B06 : Below w.heap.size w w6 := B05.trans (B6.mono B05.size)
    have h16 := pcoal L2 u2 x2 y2 w6 R6.arow (by omega)
    have HMC : Hid (∀ w', Below w6.heap.size w6 w' → Calls Try.prog 17 #[u2, .int .i64 x2, .int .i64 y2] w' fun e w'' => ∃ u, e = .returned (.tuple #[u, .bool (coalB L2 x2 y2)]) ∧ Ri w'.heap.size w'' u (coalL L2 x2 y2) ∧ Below w'.heap.size w' w'') := fun w' b => mcoal L2 u2 x2 y2 w' (R6.next b).arow
    have HLO : Hid (coalB L2 x2 y2 = true → ∀ w' c, Below w6.heap.size w6 w' → ARow w' c (coalL L2 x2 y2) → Calls Try.prog 18 #[u2, .int .i64 y2, c] w' fun e w'' => e = .returned (.bool true) ∧ Below w'.heap.size w' w'') := fun hb w' c b V => by
      have e : coalL L2 x2 y2 = srt (linesL L2 y2) := by unfold coalL; rw [if_pos hb]
      rw [e] at V
      unfold coalB at hb
      rw [Bool.and_eq_true, Bool.and_eq_true, Bool.and_eq_true] at hb
      have q := pwB_iff hb.2.2.1
      exact mlinesof L2 u2 c y2 w' (R6.next b).arow V hb.1 q.1 q.2
    generalize coalL L2 x2 y2 = CL at h16 HMC HLO
    obtain ⟨ua2, uc2, hu2, _⟩ := R6.arow
    subst hu2
    generalize coalB L2 x2 y2 = CB at h16 HMC HLO
    clear R6 B6 B05 B03
    cases CB
    · go_wp2_with (first | (go_at_call 16; refine h16.mono ?_; rintro e w7 ⟨c7, rfl, O7, B7⟩) | (go_at_call 17; refine (HMC.out w7 B7).mono ?_; rintro e w8 ⟨c8, rfl, R8, B8⟩))
      have B68 : Below w6.heap.size w6 w8 := B7.trans (B8.mono B7.size)
      go_ret
      exact ⟨rfl, B06.trans (B68.mono B06.size)⟩
    · go_wp2_with (first | (go_at_call 16; refine h16.mono ?_; rintro e w7 ⟨c7, rfl, O7, B7⟩) | (go_at_call 17; refine (HMC.out w7 B7).mono ?_; rintro e w8 ⟨c8, rfl, R8, B8⟩; (have B68 : Below w6.heap.size w6 w8 := B7.trans (B8.mono B7.size))))
      have h18 := HLO.out (by trivial) w8 c7 B68 (O7.arowC.row.next B8)
      go_wp2_with (go_at_call 18; refine h18.mono ?_; rintro e w9 ⟨rfl, B9⟩)
      go_ret
      exact ⟨rfl, (B06.trans (B68.mono B06.size)).trans (B9.mono (Nat.le_trans B06.size B68.size))⟩
  · obtain ⟨P, hP, p0, p1, p2, p3⟩ := HK.out rfl
    clear HK
    go_wp2_with (first | (go_at_call 12; refine h12.mono ?_; rintro e w3 ⟨rfl, B3⟩) | (go_at_call 13; refine (HM.out w3 B3).mono ?_; rintro e w4 ⟨rfl, B4⟩; (have B24 : Below w2.heap.size w2 w4 := B3.trans (B4.mono B3.size))) | (go_at_call 14; refine (HU.out w4 B24).mono ?_; rintro e w5 ⟨rfl, B5⟩))
    have B05 : Below w.heap.size w w5 := B2.trans ((B24.trans (B5.mono B24.size)).mono B2.size)
    clear h12 HM HU B2 B3 B4 B24 B5
    have B03 : Below w.heap.size w w5 := B05
    go_wp2_with (go_at_call 15; refine (HDC.out w5 B05).mono ?_; rintro e w6 ⟨u2, L2, x2, y2, rfl, R6, hL2, B6⟩)
    have B06 : Below w.heap.size w w6 := B05.trans (B6.mono B05.size)
    have h16 := pcoal L2 u2 x2 y2 w6 R6.arow (by omega)
    have HMC : Hid (∀ w', Below w6.heap.size w6 w' → Calls Try.prog 17 #[u2, .int .i64 x2, .int .i64 y2] w' fun e w'' => ∃ u, e = .returned (.tuple #[u, .bool (coalB L2 x2 y2)]) ∧ Ri w'.heap.size w'' u (coalL L2 x2 y2) ∧ Below w'.heap.size w' w'') := fun w' b => mcoal L2 u2 x2 y2 w' (R6.next b).arow
    have HLO : Hid (coalB L2 x2 y2 = true → ∀ w' c, Below w6.heap.size w6 w' → ARow w' c (coalL L2 x2 y2) → Calls Try.prog 18 #[u2, .int .i64 y2, c] w' fun e w'' => e = .returned (.bool true) ∧ Below w'.heap.size w' w'') := fun hb w' c b V => by
      have e : coalL L2 x2 y2 = srt (linesL L2 y2) := by unfold coalL; rw [if_pos hb]
      rw [e] at V
      unfold coalB at hb
      rw [Bool.and_eq_true, Bool.and_eq_true, Bool.and_eq_true] at hb
      have q := pwB_iff hb.2.2.1
      exact mlinesof L2 u2 c y2 w' (R6.next b).arow V hb.1 q.1 q.2
    generalize coalL L2 x2 y2 = CL at h16 HMC HLO
    obtain ⟨ua2, uc2, hu2, _⟩ := R6.arow
    subst hu2
    generalize coalB L2 x2 y2 = CB at h16 HMC HLO
    clear R6 B6 B05 B03
    cases CB
    · go_wp2_with (first | (go_at_call 16; refine h16.mono ?_; rintro e w7 ⟨c7, rfl, O7, B7⟩) | (go_at_call 17; refine (HMC.out w7 B7).mono ?_; rintro e w8 ⟨c8, rfl, R8, B8⟩))
      have B68 : Below w6.heap.size w6 w8 := B7.trans (B8.mono B7.size)
      go_ret
      exact ⟨rfl, B06.trans (B68.mono B06.size)⟩
    · go_wp2_with (first | (go_at_call 16; refine h16.mono ?_; rintro e w7 ⟨c7, rfl, O7, B7⟩) | (go_at_call 17; refine (HMC.out w7 B7).mono ?_; rintro e w8 ⟨c8, rfl, R8, B8⟩; (have B68 : Below w6.heap.size w6 w8 := B7.trans (B8.mono B7.size))))
      have h18 := HLO.out (by trivial) w8 c7 B68 (O7.arowC.row.next B8)
      go_wp2_with (go_at_call 18; refine h18.mono ?_; rintro e w9 ⟨rfl, B9⟩)
      go_ret
      exact ⟨rfl, (B06.trans (B68.mono B06.size)).trans (B9.mono (Nat.le_trans B06.size B68.size))⟩

set_option maxRecDepth 100000 in
theorem lifted (os : Os) (started : os.Started) (H : Type) (enc : TypeId × Value → H) :
    ReturnsInHanded {} Try.checked os 3 .any (Rows.fnBanksSpec.pre6 enc Try.prog Try.f3 Rows.fnBanksRow.domain false) (Rows.fnBanksSpec.post enc Try.prog Try.f3 false true false false) := by
  refine returnsInHanded_of_change (C := Try.checked) own started (by kernel_rfl) Try.func3
    (ChangeSpec.witness6 (enc := enc) (C := Try.checked) false ⟨#[], #[.slice none 0 0, .slice none 0 0], []⟩ 8 (by kernel_rfl) (by kernel_rfl) (by kernel_rfl) (by kernel_rfl)) ?_
  intro W base args ds gs before hval0 hW hcnd _
  have hval : ∀ (j : Nat) t v, Try.f3.params[j]? = some t → args[j]? = some v → Value.okWide Try.prog W .any base t v := hval0
  have hW' := hW
  obtain ⟨p, q, hA0, hV, rfl, hfz, hnd⟩ := hW
  have hA : DataW.TrodAll enc Try.prog W 0 (fun _ => true) true Try.f3.params.toList args.toList ds p := hA0
  rw [Try.params3] at hA hval
  obtain ⟨v0, vs0, d0, ds0, p0, q0, hargs, rfl, rfl, h0, r0⟩ := trodAll_cons hA
  obtain ⟨v1, vs1, d1, ds1, p1, q1, rfl, rfl, rfl, h1, r1⟩ := trodAll_cons r0
  obtain ⟨rfl, rfl, rfl⟩ := trodAll_nil r1
  obtain rfl : args = #[v0, v1] := by cases args; simp_all
  obtain ⟨rfl, rfl⟩ := trodVars_none hV
  simp only [List.append_nil] at hW'
  have k0 := h0
  have lt0 : ∀ x ∈ p0, x.block < W.heap.size := fun x hx => by have := hW'.lt x (by simp [hx]); simpa using this
  obtain ⟨s0, n0, c0, f0, rfl, m0, A0, z0⟩ := view_ints Try.underlying22 Try.underlying5 (by kernel_rfl) (hval 0 22 v0 rfl rfl) h0 lt0
  have arg0 : ∀ (W' : World), Below W.heap.size W W' → DataW.Trod enc Try.prog W' 0 (fun b => decide (b < W.heap.size)) true 22 (.slice s0 n0 c0) d0 p0 := fun W' hn => Below.trod laidOut (by kernel_rfl) (of_decide_eq_true (by kernel_rfl)) k0 hn lt0
  have k1 := h1
  have lt1 : ∀ x ∈ p1, x.block < W.heap.size := fun x hx => by have := hW'.lt x (by simp [hx]); simpa using this
  obtain ⟨s1, n1, c1, f1, rfl, m1, A1, z1⟩ := view_ints Try.underlying22 Try.underlying5 (by kernel_rfl) (hval 1 22 v1 rfl rfl) h1 lt1
  have arg1 : ∀ (W' : World), Below W.heap.size W W' → DataW.Trod enc Try.prog W' 0 (fun b => decide (b < W.heap.size)) true 22 (.slice s1 n1 c1) d1 p1 := fun W' hn => Below.trod laidOut (by kernel_rfl) (of_decide_eq_true (by kernel_rfl)) k1 hn lt1
  clear hA0 hval0
  refine (walk W s0 n0 c0 f0 m0 A0 z0 s1 n1 c1 f1 m1 A1 z1).mono fun e W' ⟨he, hg⟩ => ?_
  subst he
  refine ⟨_, rfl, _, _, _, [], p0 ++ (p1 ++ []), [], hW', (trodAll_cons_mk (shut_bool Try.underlying4 _) trodAll_mk0), (trodAll_cons_mk (arg0 _ hg) (trodAll_cons_mk (arg1 _ hg) trodAll_mk0)), rfl, hg.frame _, fun h => by cases h⟩
theorem over : Rows.fnBanksRow.holds Try.pinned (OpenSpec.ofChange Rows.fnBanksSpec) :=
  OpenClaim.holds_of_wide 3 Try.f3 rfl rfl rfl rfl rfl rfl rfl ⟨rfl, rfl, rfl, rfl, rfl⟩ rfl rfl rfl rfl rfl (by kernel_rfl) Try.func3 (by kernel_rfl)
    (of_decide_eq_true (by kernel_rfl)) (by unfold Func.isWrapper; first | (rw [if_pos (by decide +kernel)]; kernel_rfl) | (rw [if_neg (by decide +kernel)]; exact ⟨rfl, rfl⟩))
    (fun os started H enc _ => lifted os started H enc)
end Go.Proofs.Ytfhpjcojccfcoaa.fnBanks
namespace Go.Proofs.Ytfhpjcojccfcoaa
theorem banks : Rows.FnBanksSaid := fnBanks.over
#print axioms banks
end Go.Proofs.Ytfhpjcojccfcoaa
