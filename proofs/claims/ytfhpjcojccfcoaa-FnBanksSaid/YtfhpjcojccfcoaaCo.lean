/- A number laid into a rising list, the lines of places; Coalesced of both sides. -/
import Derived.Test.YtfhpjcojccfcoaaAp
import Derived.Test.YtfhpjcojccfcoaaBp
namespace Go.Proofs.Ytfhpjcojccfcoaa
open Go.ChangeShapes Go.WideShapes Go.ChangeAt Go.RowKit
set_option linter.unusedVariables false
set_option maxRecDepth 100000 in
set_option maxHeartbeats 1000000 in
theorem mput (B : Nat) (M : List Int) (u : Value) (y : Int) (w : World) (R : Ri B w u M) (hl : M.length ≤ 1000) : Calls Try.prog 47 #[u, .int .i64 y] w fun e w' => ∃ v, e = .returned v ∧ Ri B w' v (insU y M) ∧ Below w.heap.size w w' := by
  obtain ⟨i3, hi3, hz30, hz31, hz32⟩ := info_parts info3
  have HR := Hid.mk R
  obtain ⟨ad, c, rfl, hmc, hga⟩ : ∃ ad c, u = .slice ad M.length c ∧ M.length ≤ c ∧ (ad = none → M = []) ∧ (∀ a, ad = some a → ∃ g, a = ⟨g, 0, none⟩) := by
    rcases ri_cases R with ⟨rfl, rfl⟩ | ⟨g, c, rfl, h1, _, _⟩
    · exact ⟨none, 0, rfl, Nat.le_refl _, fun _ => rfl, fun a h => by cases h⟩
    · exact ⟨_, c, rfl, h1, (fun h => by cases h), fun a h => ⟨g, by injection h with h; exact h.symm⟩⟩
  have HQ := Hid.mk R.arow
  obtain ⟨oa, oc, hv, hc⟩ := R.arow
  injection hv with hv1 hv2 hv3
  subst hv1; subst hv3
  have HC := Hid.mk hc
  clear hc R
  obtain ⟨m, hm⟩ : ∃ m, M.length = m := ⟨_, rfl⟩
  have HM : Hid (M.length = m) := hm
  rw [hm] at hmc HC HR HQ hl ⊢
  have HGA := Hid.mk hga
  have HB0 : Hid (B ≤ w.heap.size) := HR.out.2
  clear hm hv2 hga
  go_enter Try.func47, Try.ntmps47
  go_wp2
  go_loop [5] (fun i => ∃ p : Nat, p ≤ m ∧ i = .int .i64 p ∧ Hid (∀ i, i < p → M.getD i 0 < y)) (fun i => m - (intOf i).toNat)
  case atStart => exact ⟨0, Nat.zero_le _, rfl, fun i hi => absurd hi (by omega)⟩
  case round =>
    obtain ⟨p, hp, rfl, HLT⟩ := hrel
    have p0 : (0 : Int) ≤ (p : Int) := by omega
    have q5 : (p : Int) ≤ (c : Int) := by omega
    have q6 : (p : Int) ≤ (m : Int) := by omega
    have q7 : (m : Int) ≤ (c : Int) := by omega
    have pl : p ≤ 1000 := by omega
    by_cases hpm : p < m
    · have i2 : (p : Int) < (m : Int) := by omega
      have l2 : decide ((p : Int) < (m : Int)) = true := decide_eq_true i2
      obtain ⟨g, o, rfl, cz⟩ := HC.out p hpm
      obtain ⟨g0, hg0⟩ := HGA.out.2 _ rfl
      injection hg0 with hg1 hg2
      subst hg1; subst hg2
      obtain ⟨z, hz⟩ : ∃ z, M.getD p 0 = z := ⟨_, rfl⟩
      have HZ : Hid (M.getD p 0 = z) := hz
      rw [hz] at cz
      clear hz
      rw [Nat.zero_add] at cz
      rcases Int.lt_trichotomy z y with hzy | hzy | hzy
      · go_wp2
        go_round
        case rel => exact ⟨p + 1, hpm, by go_num, lt_snoc HLT.out HZ.out hzy⟩
        case measure => simp [intOf]; omega
      · have hzy' : ¬ z < y := by omega
        have HE : Hid (insU y M = M) := insU_same y M p (by rw [HM.out]; exact hpm) HLT.out (by rw [HZ.out]; exact hzy)
        subst hzy
        go_wp2
        go_ret
        exact ⟨_, rfl, by rw [HE.out]; exact HR.out, Below.refl _ _⟩
      · have hzy' : ¬ z < y := by omega
        have hzy'' : ¬ z = y := by omega
        have q2 : ¬ c < p := by omega
        have q3 : ¬ c - p = 0 := by omega
        have q4 : ¬ c = p := by omega
        have HU : Hid (insU y M = M.take p ++ (y :: M.drop p)) := by
          show _ = _
          rw [insU_at y M p (by rw [HM.out]; omega) HLT.out (fun _ => by rw [HZ.out]; exact hzy)]
        have HTL : Hid ((M.take p).length = p) := by show _ = _; rw [List.length_take, HM.out]; omega
        have HDL : Hid ((M.drop p).length = m - p) := by show _ = _; rw [List.length_drop, HM.out]
        have hQ := HQ.out
        go_wp2_with (at_builtin; refine wpList_append_ri _ _ Try.underlying23 hi3 hz30 hz31 hz32 rfl rfl rfl rfl (Ri.nil w.heap.size w (Nat.le_refl _)) (hQ.take p hp c) (by have h1 := HTL.out; simp only [List.length_nil, h1]; omega) ?_)
        intro v1 w1 R1 G1 A1
        have B1 : Hid (Below w.heap.size w w1) := (Below.refl _ _).grown G1 (Nat.le_refl _) (fun g hg => by cases hg)
        have R1h := Hid.mk R1
        clear R1 G1 A1
        go_wp2_with (at_builtin; refine wpList_append_ri _ _ Try.underlying23 hi3 hz30 hz31 hz32 rfl rfl rfl rfl (R1h.out.alloc (.cells #[.int .i64 y] 3)) (ARow.one w1 y) (by have h1 := HTL.out; simp only [List.length_cons, List.length_nil, h1]; omega) ?_)
        intro v2 w2 R2 G2 A2
        have B2 : Hid (Below w.heap.size w w2) := (B1.out.alloc B1.out.size _).grown G2 (Nat.le_trans B1.out.size (alloc_b (v := w1) (o := .cells #[.int .i64 y] 3)).size) (fun g hg => (R1h.out.lt g hg).1)
        have R2h := Hid.mk R2
        have hQ2 : ARow w2 (.slice (some ⟨g, p, none⟩) (m - p) (c - p)) (M.drop p) := by have := (hQ.next B2.out).drop p (c - p); rwa [Nat.zero_add] at this
        clear R2 G2 A2 R1h B1
        go_wp2_with (at_builtin; refine wpList_append_ri _ _ Try.underlying23 hi3 hz30 hz31 hz32 rfl rfl rfl rfl R2h.out hQ2 (by have h1 := HTL.out; have h2 := HDL.out; simp only [List.length_append, List.length_nil, List.length_cons, h1, h2]; omega) ?_)
        intro v3 w3 R3 G3 A3
        have B3 : Hid (Below w.heap.size w w3) := B2.out.grown G3 B2.out.size (fun g hg => (R2h.out.lt g hg).1)
        go_wp2
        go_ret
        have R3u := R3.up HB0.out
        exact ⟨_, rfl, by rw [HU.out]; exact R3u, B3.out⟩
    · obtain rfl : m = p := by omega
      have i2 : ¬ (m : Int) < (m : Int) := by omega
      have l2 : decide ((m : Int) < (m : Int)) = false := decide_eq_false i2
      have HU : Hid (insU y M = M.take m ++ (y :: M.drop m)) := by
        show _ = _
        rw [insU_at y M m (by rw [HM.out]; omega) HLT.out (fun h => absurd h (by rw [HM.out]; omega))]
      cases ad with
      | none =>
        have hM0 : M = [] := HGA.out.1 rfl
        obtain rfl := hM0
        have m0 : 0 = m := HM.out
        subst m0
        have hQ := HQ.out
        go_wp2_with (at_builtin; refine wpList_append_ri _ _ Try.underlying23 hi3 hz30 hz31 hz32 rfl rfl rfl rfl (Ri.nil w.heap.size w (Nat.le_refl _)) (ARow.none w none c rfl) (by simp) ?_)
        intro v1 w1 R1 G1 A1
        have B1 : Hid (Below w.heap.size w w1) := (Below.refl _ _).grown G1 (Nat.le_refl _) (fun g hg => by cases hg)
        have R1h := Hid.mk R1
        clear R1 G1 A1
        go_wp2_with (at_builtin; refine wpList_append_ri _ _ Try.underlying23 hi3 hz30 hz31 hz32 rfl rfl rfl rfl (R1h.out.alloc (.cells #[.int .i64 y] 3)) (ARow.one w1 y) (by simp) ?_)
        intro v2 w2 R2 G2 A2
        have B2 : Hid (Below w.heap.size w w2) := (B1.out.alloc B1.out.size _).grown G2 (Nat.le_trans B1.out.size (alloc_b (v := w1) (o := .cells #[.int .i64 y] 3)).size) (fun g hg => (R1h.out.lt g hg).1)
        have R2h := Hid.mk R2
        have hQ2 : ARow w2 (.slice none 0 (c - 0)) ([] : List Int) := ARow.none _ _ _ rfl
        clear R2 G2 A2 R1h B1
        go_wp2_with (at_builtin; refine wpList_append_ri _ _ Try.underlying23 hi3 hz30 hz31 hz32 rfl rfl rfl rfl R2h.out hQ2 (by simp) ?_)
        intro v3 w3 R3 G3 A3
        have B3 : Hid (Below w.heap.size w w3) := B2.out.grown G3 B2.out.size (fun g hg => (R2h.out.lt g hg).1)
        go_wp2
        go_ret
        have R3u := R3.up HB0.out
        exact ⟨_, rfl, by exact R3u, B3.out⟩
      | some ad =>
        obtain ⟨g, rfl⟩ := HGA.out.2 _ rfl
        by_cases q4 : c = m
        · subst q4
          have HTL : Hid ((M.take c).length = c) := by show _ = _; rw [List.length_take, HM.out]; omega
          have HDL : Hid ((M.drop c).length = c - c) := by show _ = _; rw [List.length_drop, HM.out]
          have hQ := HQ.out
          go_wp2_with (at_builtin; refine wpList_append_ri _ _ Try.underlying23 hi3 hz30 hz31 hz32 rfl rfl rfl rfl (Ri.nil w.heap.size w (Nat.le_refl _)) (hQ.take c (Nat.le_refl _) c) (by have h1 := HTL.out; simp only [List.length_nil, h1]; omega) ?_)
          intro v1 w1 R1 G1 A1
          have B1 : Hid (Below w.heap.size w w1) := (Below.refl _ _).grown G1 (Nat.le_refl _) (fun g hg => by cases hg)
          have R1h := Hid.mk R1
          clear R1 G1 A1
          go_wp2_with (at_builtin; refine wpList_append_ri _ _ Try.underlying23 hi3 hz30 hz31 hz32 rfl rfl rfl rfl (R1h.out.alloc (.cells #[.int .i64 y] 3)) (ARow.one w1 y) (by have h1 := HTL.out; simp only [List.length_cons, List.length_nil, h1]; omega) ?_)
          intro v2 w2 R2 G2 A2
          have B2 : Hid (Below w.heap.size w w2) := (B1.out.alloc B1.out.size _).grown G2 (Nat.le_trans B1.out.size (alloc_b (v := w1) (o := .cells #[.int .i64 y] 3)).size) (fun g hg => (R1h.out.lt g hg).1)
          have R2h := Hid.mk R2
          have hQ2 : ARow w2 (.slice (some ⟨g, 0, none⟩) 0 0) (M.drop c) := ARow.none _ _ _ (List.drop_eq_nil_of_le (by rw [HM.out]; exact Nat.le_refl _))
          clear R2 G2 A2 R1h B1
          go_wp2_with (at_builtin; refine wpList_append_ri _ _ Try.underlying23 hi3 hz30 hz31 hz32 rfl rfl rfl rfl R2h.out hQ2 (by have h1 := HTL.out; have h2 := HDL.out; simp only [List.length_append, List.length_nil, List.length_cons, h1, h2]; omega) ?_)
          intro v3 w3 R3 G3 A3
          have B3 : Hid (Below w.heap.size w w3) := B2.out.grown G3 B2.out.size (fun g hg => (R2h.out.lt g hg).1)
          go_wp2
          go_ret
          have R3u := R3.up HB0.out
          exact ⟨_, rfl, by rw [HU.out]; exact R3u, B3.out⟩
        · have q3 : ¬ c - m = 0 := by omega
          have HTL : Hid ((M.take m).length = m) := by show _ = _; rw [List.length_take, HM.out]; omega
          have HDL : Hid ((M.drop m).length = m - m) := by show _ = _; rw [List.length_drop, HM.out]
          have hQ := HQ.out
          go_wp2_with (at_builtin; refine wpList_append_ri _ _ Try.underlying23 hi3 hz30 hz31 hz32 rfl rfl rfl rfl (Ri.nil w.heap.size w (Nat.le_refl _)) (hQ.take m (Nat.le_refl _) c) (by have h1 := HTL.out; simp only [List.length_nil, h1]; omega) ?_)
          intro v1 w1 R1 G1 A1
          have B1 : Hid (Below w.heap.size w w1) := (Below.refl _ _).grown G1 (Nat.le_refl _) (fun g hg => by cases hg)
          have R1h := Hid.mk R1
          clear R1 G1 A1
          go_wp2_with (at_builtin; refine wpList_append_ri _ _ Try.underlying23 hi3 hz30 hz31 hz32 rfl rfl rfl rfl (R1h.out.alloc (.cells #[.int .i64 y] 3)) (ARow.one w1 y) (by have h1 := HTL.out; simp only [List.length_cons, List.length_nil, h1]; omega) ?_)
          intro v2 w2 R2 G2 A2
          have B2 : Hid (Below w.heap.size w w2) := (B1.out.alloc B1.out.size _).grown G2 (Nat.le_trans B1.out.size (alloc_b (v := w1) (o := .cells #[.int .i64 y] 3)).size) (fun g hg => (R1h.out.lt g hg).1)
          have R2h := Hid.mk R2
          have hQ2 : ARow w2 (.slice (some ⟨g, m, none⟩) 0 (c - m)) (M.drop m) := ARow.none _ _ _ (List.drop_eq_nil_of_le (by rw [HM.out]; exact Nat.le_refl _))
          clear R2 G2 A2 R1h B1
          go_wp2_with (at_builtin; refine wpList_append_ri _ _ Try.underlying23 hi3 hz30 hz31 hz32 rfl rfl rfl rfl R2h.out hQ2 (by have h1 := HTL.out; have h2 := HDL.out; simp only [List.length_append, List.length_nil, List.length_cons, h1, h2]; omega) ?_)
          intro v3 w3 R3 G3 A3
          have B3 : Hid (Below w.heap.size w w3) := B2.out.grown G3 B2.out.size (fun g hg => (R2h.out.lt g hg).1)
          go_wp2
          go_ret
          have R3u := R3.up HB0.out
          exact ⟨_, rfl, by rw [HU.out]; exact R3u, B3.out⟩
end Go.Proofs.Ytfhpjcojccfcoaa
